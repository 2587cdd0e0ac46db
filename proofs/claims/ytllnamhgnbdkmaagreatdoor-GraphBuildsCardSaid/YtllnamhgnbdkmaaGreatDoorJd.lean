/-
Stage 11: what is right: the table of ops, places, texts. Stage 11: texts of nodes; which nodes are right.
-/
import Derived.Test.YtllnamhgnbdkmaaGreatDoorJw
set_option linter.unusedVariables false
set_option linter.unusedSimpArgs false
namespace Go.Proofs.YtllnamhgnbdkmaaGreatDoor
open Go.RowKit
structure Gop where
  number : Int
  word : List UInt8
  parts : Int
  least : Int
  most : Int
  side : Int
deriving DecidableEq
def gop1 : Gop := ⟨1, [115, 111, 117, 114, 99, 101], 1, 0, 0, 0⟩
def gop2 : Gop := ⟨2, [101, 97, 99, 104], 3, 1, 1, 4⟩
def gop3 : Gop := ⟨3, [119, 105, 110, 100, 111, 119], 5, 1, 1, 0⟩
def gop4 : Gop := ⟨4, [103, 114, 111, 117, 112], 6, 1, 1, 0⟩
def gop5 : Gop := ⟨5, [102, 108, 97, 116, 116, 101, 110], 1, 1, 4, 0⟩
def gop6 : Gop := ⟨6, [115, 105, 110, 107], 1, 1, 1, 0⟩
def gops : List Gop := [gop1, gop2, gop3, gop4, gop5, gop6]
def zop : Gop := ⟨0, [], 0, 0, 0, 0⟩
def Gop.val (x : Gop) : Value := .agg #[.int .i64 x.number, .string ⟨x.word.toArray⟩, .int .i64 x.parts, .int .i64 x.least, .int .i64 x.most, .int .i64 x.side]
def opsRow : Array Value := #[.int .i64 1, .string ⟨#[115, 111, 117, 114, 99, 101]⟩, .int .i64 1, .int .i64 0, .int .i64 0, .int .i64 0, .int .i64 2, .string ⟨#[101, 97, 99, 104]⟩, .int .i64 3, .int .i64 1, .int .i64 1, .int .i64 4, .int .i64 3, .string ⟨#[119, 105, 110, 100, 111, 119]⟩, .int .i64 5, .int .i64 1, .int .i64 1, .int .i64 0, .int .i64 4, .string ⟨#[103, 114, 111, 117, 112]⟩, .int .i64 6, .int .i64 1, .int .i64 1, .int .i64 0, .int .i64 5, .string ⟨#[102, 108, 97, 116, 116, 101, 110]⟩, .int .i64 1, .int .i64 1, .int .i64 4, .int .i64 0, .int .i64 6, .string ⟨#[115, 105, 110, 107]⟩, .int .i64 1, .int .i64 1, .int .i64 1, .int .i64 0]
def OpsG (w : World) : Prop := ∃ t fr, w.heap[0]? = some (.cells opsRow t fr)
theorem OpsG.lt {w : World} (h : OpsG w) : 0 < w.heap.size := by
  obtain ⟨t, fr, h⟩ := h
  exact (Array.getElem?_eq_some_iff.1 h).1
theorem OpsG.kept {w w' : World} (h : OpsG w) (hw : w'.heap[0]? = w.heap[0]?) : OpsG w' := by
  obtain ⟨t, fr, h⟩ := h
  exact ⟨t, fr, hw.trans h⟩
theorem ops_at0 : ∀ w : World, (Instr.index 134 (.agg opsRow) (.int .i64 ((0 : Nat) : Int))).run Tryz.prog w = .ok gop1.val w := fun _ => by kernel_rfl
theorem ops_at1 : ∀ w : World, (Instr.index 134 (.agg opsRow) (.int .i64 ((1 : Nat) : Int))).run Tryz.prog w = .ok gop2.val w := fun _ => by kernel_rfl
theorem ops_at2 : ∀ w : World, (Instr.index 134 (.agg opsRow) (.int .i64 ((2 : Nat) : Int))).run Tryz.prog w = .ok gop3.val w := fun _ => by kernel_rfl
theorem ops_at3 : ∀ w : World, (Instr.index 134 (.agg opsRow) (.int .i64 ((3 : Nat) : Int))).run Tryz.prog w = .ok gop4.val w := fun _ => by kernel_rfl
theorem ops_at4 : ∀ w : World, (Instr.index 134 (.agg opsRow) (.int .i64 ((4 : Nat) : Int))).run Tryz.prog w = .ok gop5.val w := fun _ => by kernel_rfl
theorem ops_at5 : ∀ w : World, (Instr.index 134 (.agg opsRow) (.int .i64 ((5 : Nat) : Int))).run Tryz.prog w = .ok gop6.val w := fun _ => by kernel_rfl
theorem ops_at (k : Nat) (x : Gop) (h : gops[k]? = some x) (w : World) :
    (Instr.index 134 (.agg opsRow) (.int .i64 (k : Int))).run Tryz.prog w = .ok x.val w := by
  match k, h with
  | 0, h => (obtain rfl : gop1 = x := by simpa [gops] using h); exact ops_at0 w
  | 1, h => (obtain rfl : gop2 = x := by simpa [gops] using h); exact ops_at1 w
  | 2, h => (obtain rfl : gop3 = x := by simpa [gops] using h); exact ops_at2 w
  | 3, h => (obtain rfl : gop4 = x := by simpa [gops] using h); exact ops_at3 w
  | 4, h => (obtain rfl : gop5 = x := by simpa [gops] using h); exact ops_at4 w
  | 5, h => (obtain rfl : gop6 = x := by simpa [gops] using h); exact ops_at5 w
  | k + 6, h => simp [gops] at h
def opP (k : Int) : Option Gop := gops.find? fun x => x.number == k
set_option maxRecDepth 100000 in
set_option maxHeartbeats 400000 in
theorem opOf_any (n : Int) (w : World) (hG : OpsG w) :
    Calls Tryz.prog 66 #[.int .i64 n] w fun e w' => e = .returned (.tuple #[((opP n).getD zop).val, .bool (opP n).isSome]) ∧ Below w.heap.size w w' := by
  have hGl := hG.lt
  obtain ⟨tt, fr, hg1⟩ := hG.kept (Below.heap_alloc w (.cells #[.int .i64 0, .string ⟨#[]⟩, .int .i64 0, .int .i64 0, .int .i64 0, .int .i64 0] 121) 0 hGl)
  go_enter Tryz.func66, Tryz.ntmps66
  go_wp2_with (refine wpList_load_row rfl 134 _ rfl 0 rfl tt _ fr _ hg1 Tryz.underlying134 rfl (by kernel_rfl) ?_)
  go_loopw [7] (fun i wr => ∃ k : Nat, k ≤ 6 ∧ i = .int .i64 k ∧ Hid (opP n = (gops.drop k).find? fun x => x.number == n) ∧ Below w.heap.size w wr ∧ w.heap.size < wr.heap.size ∧ wr.heap[w.heap.size]? = some (.cells #[.int .i64 0, .string ⟨#[]⟩, .int .i64 0, .int .i64 0, .int .i64 0, .int .i64 0] 121 (0, 0))) (fun i _ => 6 - (intOf i).toNat)
  case atStart => exact ⟨0, Nat.zero_le _, rfl, rfl, (Below.refl _ _).alloc (Nat.le_refl _) _, by simp, heap_alloc_new w _⟩
  case round =>
    obtain ⟨k, hk, rfl, HK, hb, hz, hc⟩ := hrel
    have d0 := cellN (i := 0) hc rfl
    have d1 := cellN (i := 1) hc rfl
    have d2 := cellN (i := 2) hc rfl
    have d3 := cellN (i := 3) hc rfl
    have d4 := cellN (i := 4) hc rfl
    have d5 := cellN (i := 5) hc rfl
    have e0 := frozN (i := 0) hc
    have e1 := frozN (i := 1) hc
    have e2 := frozN (i := 2) hc
    have e3 := frozN (i := 3) hc
    have e4 := frozN (i := 4) hc
    have e5 := frozN (i := 5) hc
    by_cases hlk : k < 6
    · obtain ⟨x, hx⟩ : ∃ x, gops[k]? = some x := ⟨gops[k]'hlk, List.getElem?_eq_getElem hlk⟩
      have hwa := ops_at k x hx
      unfold Gop.val at hwa
      have hd : gops.drop k = x :: gops.drop (k + 1) := by
        rw [List.drop_eq_getElem_cons hlk]
        rw [List.getElem?_eq_getElem hlk] at hx
        injection hx with hx
        rw [hx]
      have HD := Lib.hid hd
      clear hd hx
      by_cases hkd : x.number = n
      · have hke : (x.number == n) = true := by simp [hkd]
        have HE : Hid (opP n = some x) := by show _ = _; rw [HK.out, HD.out, List.find?_cons_of_pos (by simpa using hke)]
        clear hkd
        go_wp2
        refine bodyPost_ret (v := .tuple #[x.val, .bool true]) (by simp [results, Tryz.results66, go_sem, d0, d1, d2, d3, d4, d5, Gop.val, hz]) rfl ?_
        rw [HE.out]
        exact ⟨rfl, ((((((hb.setCell (Nat.le_refl _) _).setCell (Nat.le_refl _) _).setCell (Nat.le_refl _) _).setCell (Nat.le_refl _) _).setCell (Nat.le_refl _) _).setCell (Nat.le_refl _) _).alloc (by simp [World.setCell]; omega) _⟩
      · have hke : (x.number == n) = false := by simp [hkd]
        have HE : Hid (opP n = (gops.drop (k + 1)).find? fun x => x.number == n) := by show _ = _; rw [HK.out, HD.out, List.find?_cons_of_neg (by simp [hkd])]
        clear hkd
        go_wp2
        go_roundw
        case rel => exact ⟨k + 1, by omega, by go_num, HE, hb.alloc (by omega) _, by simp; omega, (Below.heap_alloc wr _ _ hz).trans hc⟩
        case measure => simp [intOf]; omega
    · obtain rfl : k = 6 := by omega
      have HE : Hid (opP n = none) := by show _ = _; rw [HK.out]; rfl
      go_wp2
      refine bodyPost_ret (v := .tuple #[zop.val, .bool false]) (by simp [results, Tryz.results66, go_sem, d0, d1, d2, d3, d4, d5, Gop.val, zop]) rfl ?_
      rw [HE.out]
      exact ⟨rfl, (((((hb.setCell (Nat.le_refl _) _).setCell (Nat.le_refl _) _).setCell (Nat.le_refl _) _).setCell (Nat.le_refl _) _).setCell (Nat.le_refl _) _).setCell (Nat.le_refl _) _⟩
theorem gwithin_any (n a b : Int) (w : World) : Calls Tryz.prog 67 #[.int .i64 n, .int .i64 a, .int .i64 b] w fun e w' => e = .returned (.bool (decide (a ≤ n ∧ n ≤ b))) ∧ w = w' := by
  by_cases h1 : a ≤ n
  · by_cases h2 : n ≤ b
    · have e : decide (a ≤ n ∧ n ≤ b) = true := by simp [h1, h2]
      rw [e]; clear e
      go_enter Tryz.func67, Tryz.ntmps67
      go_wp2
      go_ret
      exact ⟨rfl, rfl⟩
    · have e : decide (a ≤ n ∧ n ≤ b) = false := by simp [h2]
      rw [e]; clear e
      go_enter Tryz.func67, Tryz.ntmps67
      go_wp2
      go_ret
      exact ⟨rfl, rfl⟩
  · have e : decide (a ≤ n ∧ n ≤ b) = false := by simp [h1]
    rw [e]; clear e
    go_enter Tryz.func67, Tryz.ntmps67
    go_wp2
    go_ret
    exact ⟨rfl, rfl⟩
theorem gwithin_yes (n a b : Int) (w : World) (h1 : a ≤ n) (h2 : n ≤ b) : Calls Tryz.prog 67 #[.int .i64 n, .int .i64 a, .int .i64 b] w fun e w' => e = .returned (.bool true) ∧ w = w' :=
  (gwithin_any n a b w).mono fun e w' ⟨he, hw⟩ => ⟨by rw [he]; simp [h1, h2], hw⟩
theorem gwithin_no (n a b : Int) (w : World) (h : ¬ (a ≤ n ∧ n ≤ b)) : Calls Tryz.prog 67 #[.int .i64 n, .int .i64 a, .int .i64 b] w fun e w' => e = .returned (.bool false) ∧ w = w' :=
  (gwithin_any n a b w).mono fun e w' ⟨he, hw⟩ => ⟨by rw [he]; exact Wi.ret_bool (decide_eq_false h), hw⟩
theorem bl_drn {a b : World} (h : Below a.heap.size a b) (n : Nat) : Below a.heap.size a (b.drewN n) := h.trans ⟨rfl, rfl, rfl, Nat.le_refl _, fun _ _ => rfl⟩
def mayP (ahead : List Gn) (x : Int) : Bool := match ahead[x.toNat]? with
  | some n => !(n.op == 6)
  | none => false
def readP (ahead : List Gn) : List Int → Int → Bool
  | [], _ => true
  | x :: l, last => decide (last < x) && (mayP ahead x && readP ahead l x)
def risR : List Int → Int → Bool
  | [], _ => true
  | x :: l, last => decide (last < x) && risR l x
def risG : List Int → Bool
  | [] => true
  | x :: l => risR l x
def okP (ahead : List Gn) (l : List Int) : Bool := l.all fun x => decide (0 ≤ x ∧ x ≤ (ahead.length : Int) - 1) && mayP ahead x
theorem mayP_lt {a : List Gn} {x : Int} (h : mayP a x = true) (h0 : 0 ≤ x) : x ≤ (a.length : Int) - 1 := by
  unfold mayP at h
  split at h
  · rename_i n hn
    have := (List.getElem?_eq_some_iff.1 hn).1
    omega
  · cases h
theorem readP_split (a : List Gn) : ∀ (l : List Int) (last : Int), -1 ≤ last → readP a l last = (okP a l && risR l last)
  | [], _, _ => rfl
  | x :: l, last, h0 => by
    unfold readP risR okP
    by_cases h : last < x
    · rw [readP_split a l x (by omega)]
      rw [List.all_cons]
      simp only [h, decide_true, Bool.true_and]
      cases hm : mayP a x with
      | false => simp
      | true =>
        have := mayP_lt hm (by omega)
        have e : decide (0 ≤ x ∧ x ≤ (a.length : Int) - 1) = true := by simp; omega
        rw [e]
        simp only [Bool.true_and, Bool.and_self, okP]
    · simp [h]
theorem readP_both (a : List Gn) (l : List Int) : readP a l (-1) = (okP a l && risG l) := by
  rw [readP_split a l _ (Int.le_refl _)]
  cases l with
  | nil => rfl
  | cons x l =>
    show (okP a (x :: l) && (decide (-1 < x) && risR l x)) = (okP a (x :: l) && risR l x)
    cases h : okP a (x :: l) with
    | false => rfl
    | true =>
      unfold okP at h
      rw [List.all_cons] at h
      simp only [Bool.and_eq_true, decide_eq_true_eq] at h
      have : -1 < x := by omega
      simp only [this, decide_true, Bool.true_and]
set_option maxRecDepth 100000 in
set_option maxHeartbeats 1000000 in
theorem rising_any (w : World) (S : Nat → Prop) (iv : Value) (l : List Int) (hI : IntsAt w S iv l) (hl : l.length ≤ 1000000) :
    Calls Tryz.prog 89 #[iv] w fun e w' => e = .returned (.bool (risG l)) ∧ ∃ m, w' = w.drewN m := by
  obtain ⟨A, c, rfl⟩ := hI.form
  have HI := Lib.hid hI
  clear hI
  go_enter Tryz.func89, Tryz.ntmps89
  go_wp2_with (fail)
  go_loopw [3] (fun i wr => ∃ (j : Nat), i = .int .i64 ((j : Int) + 1) ∧ (l.length = 0 ∧ j = 0 ∨ j < l.length) ∧ Hid (risG l = risG (l.drop j)) ∧ ∃ q, wr = w.drewN q) (fun i _ => l.length - (intOf i).toNat)
  case atStart => exact ⟨0, rfl, by omega, Lib.hid rfl, 0, rfl⟩
  case round =>
    obtain ⟨j, rfl, hj, HR, q, rfl⟩ := hrel
    by_cases hlt : j + 1 < l.length
    · have hjl : (j : Int) + 1 < (l.length : Int) := by omega
      have hj0 : j < l.length := by omega
      obtain ⟨b, o, rfl, hc, hbl, hS⟩ := HI.out.cell hj0
      obtain ⟨b', o', e', hc', _, _⟩ := HI.out.cell hlt
      simp only [Option.some.injEq, Addr.mk.injEq, and_true] at e'
      obtain ⟨rfl, rfl⟩ := e'
      have hd : l.drop j = l[j] :: l[j + 1] :: l.drop (j + 2) := by
        rw [List.drop_eq_getElem_cons hj0, List.drop_eq_getElem_cons hlt]
      have hd1 : l.drop (j + 1) = l[j + 1] :: l.drop (j + 2) := List.drop_eq_getElem_cons hlt
      generalize l[j] = x at *
      generalize l[j + 1] = y at *
      have HD := Lib.hid hd
      have HD1 := Lib.hid hd1
      clear hd hd1
      have w1 : IntKind.i64.wrap ((j : Int) + 1 - 1) = (j : Int) := by
        rw [show (j : Int) + 1 - 1 = (j : Int) by omega]; exact IntWalk.i64_in _ (by omega)
      by_cases hlx : x < y
      · have hle : ¬ (y ≤ x) := by omega
        have HE : Hid (risG l = risG (l.drop (j + 1))) := Lib.hid (by
          rw [HR.out, HD.out, HD1.out]; simp [risG, risR, hlx])
        clear hlx
        go_wp2_with (fail)
        go_quiet (fail)
        go_wp2_with (fail)
        go_roundw
        case rel => exact ⟨j + 1, by go_num, .inr hlt, HE, _, rfl⟩
        case measure => simp [intOf]; omega
      · have hle : y ≤ x := by omega
        have HE : Hid (risG l = false) := Lib.hid (by
          rw [HR.out, HD.out]; simp [risG, risR, hlx])
        clear hlx
        go_wp2_with (fail)
        go_quiet (fail)
        go_wp2_with (fail)
        go_ret
        rw [HE.out]
        exact ⟨rfl, _, World.drewN_drewN _ _ _⟩
    · have HE : Hid (risG l = true) := Lib.hid (by
        rw [HR.out]
        rcases hj with ⟨h0, rfl⟩ | hj
        · rw [List.length_eq_zero_iff.1 h0]; rfl
        · rw [List.drop_eq_getElem_cons hj, List.drop_of_length_le (by omega)]; rfl)
      have hjl : ¬ ((j : Int) + 1 < (l.length : Int)) := by omega
      go_wp2_with (fail)
      go_ret
      rw [HE.out]
      exact ⟨rfl, _, rfl⟩
set_option maxRecDepth 100000 in
set_option maxHeartbeats 1000000 in
theorem readable_any (w : World) (S : Nat → Prop) (d : Nat) (iv gv : Value) (l : List Int) (ahead : List Gn) (hI : IntsAt w S iv l) (hG : GsAt w S d gv ahead) (hl : l.length ≤ 1000000) (ha : ahead.length ≤ 1000000) :
    Calls Tryz.prog 68 #[iv, gv] w fun e w' => e = .returned (.bool (readP ahead l (-1))) ∧ ∃ m, w' = w.drewN m := by
  have HRS := Lib.hid (rising_any w S iv l hI hl)
  obtain ⟨A, c, rfl⟩ := hI.form
  obtain ⟨B, k, rfl⟩ := hG.form
  have HI := Lib.hid hI
  have HGs := Lib.hid hG
  have HP := Lib.hid (readP_both ahead l)
  clear hI hG
  have wl : IntKind.i64.wrap ((ahead.length : Int) - 1) = (ahead.length : Int) - 1 := IntWalk.i64_in _ (by omega)
  go_enter Tryz.func68, Tryz.ntmps68
  go_wp2_with (fail)
  go_loopw [9] (fun i wr => ∃ (j : Nat), i = .int .i64 j ∧ j ≤ l.length ∧ Hid (okP ahead l = okP ahead (l.drop j)) ∧ w = wr) (fun i _ => l.length - (intOf i).toNat)
  case atStart => exact ⟨0, rfl, Nat.zero_le _, Lib.hid rfl, rfl⟩
  case round =>
    obtain ⟨j, rfl, hj, HR, rfl⟩ := hrel
    by_cases hlt : j < l.length
    · have hjl : (j : Int) < (l.length : Int) := by omega
      obtain ⟨b, o, rfl, hc, hbl, hS⟩ := HI.out.cell hlt
      have hd : l.drop j = l[j] :: l.drop (j + 1) := List.drop_eq_getElem_cons hlt
      generalize l[j] = x at *
      have HD := Lib.hid hd
      clear hd
      by_cases hx : 0 ≤ x ∧ x ≤ (ahead.length : Int) - 1
      · have HW := Lib.hid (gwithin_yes x 0 ((ahead.length : Int) - 1) w hx.1 hx.2)
        obtain ⟨xn, rfl⟩ : ∃ n : Nat, x = (n : Int) := ⟨x.toNat, by omega⟩
        have hxl : xn < ahead.length := by omega
        have hxi : (xn : Int) < (ahead.length : Int) := by omega
        obtain ⟨b2, o2, rfl, hbl2, _, _, _, _, _, _, _, _, hop, _⟩ := HGs.out.at hxl
        have ham : ahead[((xn : Int)).toNat]? = some ahead[xn] := by rw [Int.toNat_natCast]; exact List.getElem?_eq_getElem hxl
        generalize ahead[xn] = n at *
        by_cases h6 : n.op = 6
        · have h6b : (n.op == 6) = true := by simp [h6]
          have HE : Hid (readP ahead l (-1) = false) := Lib.hid (by
            rw [HP.out, HR.out, HD.out, okP, List.all_cons, mayP, ham]; simp [h6])
          clear ham hx h6
          go_wp2_with (go_at_call 67; (with_reducible refine HW.out.mono ?_); rintro e w3 ⟨rfl, rfl⟩)
          go_ret
          rw [HE.out]
          exact ⟨rfl, 0, rfl⟩
        · have h6b : (n.op == 6) = false := by simp [h6]
          have HE : Hid (okP ahead l = okP ahead (l.drop (j + 1))) := Lib.hid (by
            rw [HR.out, HD.out, okP, List.all_cons, mayP, ham]; simp [h6b, hx, okP])
          clear ham hx h6
          go_wp2_with (go_at_call 67; (with_reducible refine HW.out.mono ?_); rintro e w3 ⟨rfl, rfl⟩)
          go_roundw
          case rel => exact ⟨j + 1, by go_num, by omega, HE, trivial⟩
          case measure => simp [intOf]; omega
      · have HW := Lib.hid (gwithin_no x 0 ((ahead.length : Int) - 1) w hx)
        have HE : Hid (readP ahead l (-1) = false) := Lib.hid (by
          rw [HP.out, HR.out, HD.out, okP, List.all_cons, decide_eq_false hx]; simp)
        clear hx
        go_wp2_with (go_at_call 67; (with_reducible refine HW.out.mono ?_); rintro e w3 ⟨rfl, rfl⟩)
        go_ret
        rw [HE.out]
        exact ⟨rfl, 0, rfl⟩
    · obtain rfl : j = l.length := by omega
      have HE : Hid (readP ahead l (-1) = risG l) := Lib.hid (by rw [HP.out, HR.out, List.drop_length]; rfl)
      have hjl : ¬ ((l.length : Int) < (l.length : Int)) := by omega
      go_wp2_with (go_at_call 89; (with_reducible refine HRS.out.mono ?_); rintro e w3 ⟨rfl, m, rfl⟩)
      go_ret
      rw [HE.out]
      exact ⟨rfl, m, rfl⟩
end Go.Proofs.YtllnamhgnbdkmaaGreatDoor
namespace Go.Proofs.YtllnamhgnbdkmaaGreatDoor
open Go.RowKit
def okB (b : UInt8) : Bool := decide (32 ≤ b.toNat ∧ b.toNat ≤ 126)
def isTx (s : List UInt8) : Bool := decide (1 ≤ s.length ∧ s.length ≤ 1000) && s.all okB
set_option maxRecDepth 100000 in
set_option maxHeartbeats 1000000 in
theorem isText_any (s : List UInt8) (w : World) :
    Calls Tryz.prog 91 #[.string ⟨s.toArray⟩] w fun e w' => e = .returned (.bool (isTx s)) ∧ w = w' := by
  have hsz : (ByteArray.mk s.toArray).size = s.length := by simp [ByteArray.size]
  by_cases hin : 1 ≤ s.length ∧ s.length ≤ 1000
  · have HT : Hid (isTx s = s.all okB) := Lib.hid (by unfold isTx; rw [decide_eq_true hin]; rfl)
    obtain ⟨B, hB, hsz, hget⟩ : ∃ B : ByteArray, ByteArray.mk s.toArray = B ∧ B.size = s.length ∧ ∀ j (h : j < B.size) (h2 : j < s.length), B[j] = s[j] := ⟨_, rfl, hsz, fun j h h2 => by simp [ByteArray.getElem_eq_getElem_data]⟩
    rw [hB]
    clear hB
    have HW := fun (W : World) => Lib.hid (gwithin_yes (B.size : Int) 1 1000 W (by omega) (by omega))
    have hbig : B.size ≤ 1000 := by omega
    have HSZ := Lib.hid hsz
    have HG := Lib.hid hget
    clear hsz hin hget
    go_enter Tryz.func91, Tryz.ntmps91
    go_wp2_with (go_at_call 67; (with_reducible refine (HW _).out.mono ?_); rintro e w1 ⟨rfl, rfl⟩)
    go_loopw [10] (fun i wr => ∃ (j : Nat), i = .int .i64 j ∧ j ≤ B.size ∧ Hid (s.all okB = (s.drop j).all okB) ∧ w = wr) (fun i _ => B.size - (intOf i).toNat)
    case atStart => exact ⟨0, rfl, Nat.zero_le _, Lib.hid rfl, rfl⟩
    case round =>
      obtain ⟨j, rfl, hj, HR, rfl⟩ := hrel
      by_cases hlt : j < B.size
      · have hjl : (j : Int) < (B.size : Int) := by omega
        have hd : s.drop j = s[j]'(by have := HSZ.out; omega) :: s.drop (j + 1) := List.drop_eq_getElem_cons (by have := HSZ.out; omega)
        have hbj := HG.out j hlt (by have := HSZ.out; omega)
        rw [← hbj] at hd
        have HD := Lib.hid hd
        clear hd hbj
        have hb8 : B[j].toNat ≤ 255 := by have := B[j].toNat_lt; omega
        by_cases hok : okB B[j] = true
        · have hok2 := of_decide_eq_true (show decide (32 ≤ B[j].toNat ∧ B[j].toNat ≤ 126) = true from hok)
          have HE : Hid (s.all okB = (s.drop (j + 1)).all okB) := Lib.hid (by rw [HR.out, HD.out, List.all_cons, hok]; rfl)
          have HC := fun (W : World) => Lib.hid (gwithin_yes (B[j].toNat : Int) 32 126 W (by omega) (by omega))
          clear hok2 hok
          go_wp2_with (go_at_call 67; (with_reducible refine (HC _).out.mono ?_); rintro e w1 ⟨rfl, rfl⟩)
          go_roundw
          case rel => exact ⟨j + 1, by go_num, by omega, HE, trivial⟩
          case measure => simp [intOf]; omega
        · have hok1 : okB B[j] = false := by simpa using hok
          have hok2 := of_decide_eq_false (show decide (32 ≤ B[j].toNat ∧ B[j].toNat ≤ 126) = false from hok1)
          have HE : Hid (isTx s = false) := Lib.hid (by rw [HT.out, HR.out, HD.out, List.all_cons, hok1]; rfl)
          have HC := fun (W : World) => Lib.hid (gwithin_no (B[j].toNat : Int) 32 126 W (by omega))
          clear hok2 hok hok1
          go_wp2_with (go_at_call 67; (with_reducible refine (HC _).out.mono ?_); rintro e w1 ⟨rfl, rfl⟩)
          go_ret
          rw [HE.out]
          exact ⟨rfl, rfl⟩
      · obtain rfl : j = B.size := by omega
        have HE : Hid (isTx s = true) := Lib.hid (by rw [HT.out, HR.out, HSZ.out, List.drop_length]; rfl)
        have hjl : ¬ ((B.size : Int) < (B.size : Int)) := by omega
        go_wp2_with (fail)
        go_ret
        rw [HE.out]
        exact ⟨rfl, rfl⟩
  · have HT : Hid (isTx s = false) := Lib.hid (by unfold isTx; rw [decide_eq_false hin]; rfl)
    generalize ByteArray.mk s.toArray = B at *
    have HW := fun (W : World) => Lib.hid (gwithin_no (B.size : Int) 1 1000 W (by omega))
    clear hsz hin
    go_enter Tryz.func91, Tryz.ntmps91
    go_wp2_with (go_at_call 67; (with_reducible refine (HW _).out.mono ?_); rintro e w1 ⟨rfl, rfl⟩)
    go_ret
    rw [HT.out]
    exact ⟨rfl, rfl⟩
end Go.Proofs.YtllnamhgnbdkmaaGreatDoor
set_option linter.unusedVariables false
set_option linter.unusedSimpArgs false
namespace Go.Proofs.YtllnamhgnbdkmaaGreatDoor
open Go.RowKit
theorem eq4i (T : TypeId) (hT : Tryz.prog.underlying T = some (.struct (Tryz.prog.fieldsOf T))) (hs : Tryz.prog.stoodInHeld T = false) (m0 m1 m2 m3 : String) (hf : (Tryz.prog.fieldsOf T).toList.map (fun f => (f.name, f.type, f.offset)) = [(m0, 3, 0), (m1, 3, 1), (m2, 3, 2), (m3, 3, 3)]) (h0 : m0 ≠ "_") (h1 : m1 ≠ "_") (h2 : m2 ≠ "_") (h3 : m3 ≠ "_") (w : World) (a b c d a' b' c' d' : Int) :
    (Op.equalIn 10000 T (.agg #[.int .i64 a, .int .i64 b, .int .i64 c, .int .i64 d]) (.agg #[.int .i64 a', .int .i64 b', .int .i64 c', .int .i64 d'])).run Tryz.prog w = .ok (a == a' && b == b' && c == c' && d == d') w := by
  rw [run_equalIn_agg w 9999 T _ _ hT hs]
  generalize (Tryz.prog.fieldsOf T).toList = fs at hf
  rcases fs with _ | ⟨f0, _ | ⟨f1, _ | ⟨f2, _ | ⟨f3, _ | ⟨f4, r⟩⟩⟩⟩⟩
  · simp at hf
  · simp at hf
  · simp at hf
  · simp at hf
  · simp only [List.map_cons, List.map_nil, List.cons.injEq, Prod.mk.injEq, and_true] at hf
    obtain ⟨⟨n0, t0, o0⟩, ⟨n1, t1, o1⟩, ⟨n2, t2, o2⟩, ⟨n3, t3, o3⟩⟩ := hf
    simp [Op.eqFields, n0, t0, o0, n1, t1, o1, n2, t2, o2, n3, t3, o3, h0, h1, h2, h3, part, go_sem, Tryz.underlying3]
    by_cases ha : a = a' <;> by_cases hb : b = b' <;> by_cases hc : c = c' <;> by_cases hd : d = d' <;> simp [ha, hb, hc, hd]
  · simp at hf
theorem eq4b (T : TypeId) (hT : Tryz.prog.underlying T = some (.struct (Tryz.prog.fieldsOf T))) (hs : Tryz.prog.stoodInHeld T = false) (m0 m1 m2 m3 : String) (hf : (Tryz.prog.fieldsOf T).toList.map (fun f => (f.name, f.type, f.offset)) = [(m0, 3, 0), (m1, 3, 1), (m2, 3, 2), (m3, 4, 3)]) (h0 : m0 ≠ "_") (h1 : m1 ≠ "_") (h2 : m2 ≠ "_") (h3 : m3 ≠ "_") (w : World) (a b c a' b' c' : Int) (d d' : Bool) :
    (Op.equalIn 10000 T (.agg #[.int .i64 a, .int .i64 b, .int .i64 c, .bool d]) (.agg #[.int .i64 a', .int .i64 b', .int .i64 c', .bool d'])).run Tryz.prog w = .ok (a == a' && b == b' && c == c' && d == d') w := by
  rw [run_equalIn_agg w 9999 T _ _ hT hs]
  generalize (Tryz.prog.fieldsOf T).toList = fs at hf
  rcases fs with _ | ⟨f0, _ | ⟨f1, _ | ⟨f2, _ | ⟨f3, _ | ⟨f4, r⟩⟩⟩⟩⟩
  · simp at hf
  · simp at hf
  · simp at hf
  · simp at hf
  · simp only [List.map_cons, List.map_nil, List.cons.injEq, Prod.mk.injEq, and_true] at hf
    obtain ⟨⟨n0, t0, o0⟩, ⟨n1, t1, o1⟩, ⟨n2, t2, o2⟩, ⟨n3, t3, o3⟩⟩ := hf
    simp [Op.eqFields, n0, t0, o0, n1, t1, o1, n2, t2, o2, n3, t3, o3, h0, h1, h2, h3, part, go_sem, Tryz.underlying3, Tryz.underlying4]
    by_cases ha : a = a' <;> by_cases hb : b = b' <;> by_cases hc : c = c' <;> by_cases hd : d = d' <;> simp [ha, hb, hc, hd]
  · simp at hf
theorem Tryz.eqFn (w : World) (a b c d a' b' c' d' : Int) : (binOp .eql 69 (.agg #[.int .i64 a, .int .i64 b, .int .i64 c, .int .i64 d]) (.agg #[.int .i64 a', .int .i64 b', .int .i64 c', .int .i64 d'])).run Tryz.prog w = .ok (.bool (a == a' && b == b' && c == c' && d == d')) w := by
  rw [run_eql_struct, eq4i 69 (by kernel_rfl) (by kernel_rfl) "Kind" "Size" "Period" "Offset" (by kernel_rfl) (by decide) (by decide) (by decide) (by decide)]; rfl
theorem Tryz.eqSp (w : World) (a b c a' b' c' : Int) (d d' : Bool) : (binOp .eql 71 (.agg #[.int .i64 a, .int .i64 b, .int .i64 c, .bool d]) (.agg #[.int .i64 a', .int .i64 b', .int .i64 c', .bool d'])).run Tryz.prog w = .ok (.bool (a == a' && b == b' && c == c' && d == d')) w := by
  rw [run_eql_struct, eq4b 71 (by kernel_rfl) (by kernel_rfl) "Early" "Late" "Lateness" "Accumulate" (by kernel_rfl) (by decide) (by decide) (by decide) (by decide)]; rfl
theorem Tryz.guFn (op : BinOp) (w : World) (x y : Operand) (xs ys : Array Value) : (eqGuard op 69 x y (.agg xs) (.agg ys)).run Tryz.prog w = .ok () w := run_eqGuard_agg w op _ _ _ _ _ (by kernel_rfl)
theorem Tryz.guSp (op : BinOp) (w : World) (x y : Operand) (xs ys : Array Value) : (eqGuard op 71 x y (.agg xs) (.agg ys)).run Tryz.prog w = .ok () w := run_eqGuard_agg w op _ _ _ _ _ (by kernel_rfl)
def noFn (n : Gn) : Bool := n.f0 == 0 && n.f1 == 0 && n.f2 == 0 && n.f3 == 0
def noSp (n : Gn) : Bool := n.e == 0 && n.l == 0 && n.lt == 0 && n.acc == false
def noTy (n : Gn) : Bool := n.ty.kind == 0 && decide (n.ty.args.length = 0)
def noTx (n : Gn) : Bool := n.text.isEmpty
def formP (n : Gn) : Bool :=
  (if n.op = 2 ∨ n.op = 4 then isTx n.text else noTx n) && ((if n.op = 1 then (Knd.measureT 6 n.ty).isSome else noTy n) && ((if n.op = 3 then Wi.rgtB n.f0 n.f1 n.f2 n.f3 else noFn n) && (if n.op = 4 then Tg.RightB n.e n.l n.lt else noSp n)))
def Gn.row (n : Gn) (IA SA A : Option Addr) (ic sc c : Nat) : Array Value := #[.int .i64 n.op, .slice IA n.ins.length ic, .slice SA n.side.length sc, .string ⟨n.text.toArray⟩, .int .i64 n.ty.kind, .slice A n.ty.args.length c, .int .i64 n.f0, .int .i64 n.f1, .int .i64 n.f2, .int .i64 n.f3, .int .i64 n.e, .int .i64 n.l, .int .i64 n.lt, .bool n.acc]
set_option maxRecDepth 100000 in
set_option maxHeartbeats 2000000 in
theorem formed_any (w : World) (S : Nat → Prop) (d : Nat) (n : Gn) (IA SA A : Option Addr) (ic sc c : Nat) (hT : TyAt w S d (.agg #[.int .i64 n.ty.kind, .slice A n.ty.args.length c]) n.ty) (hG : Knd.Glob w) :
    Calls Tryz.prog 69 #[.agg #[.int .i64 n.op, .slice IA n.ins.length ic, .slice SA n.side.length sc, .string ⟨n.text.toArray⟩, .int .i64 n.ty.kind, .slice A n.ty.args.length c, .int .i64 n.f0, .int .i64 n.f1, .int .i64 n.f2, .int .i64 n.f3, .int .i64 n.e, .int .i64 n.l, .int .i64 n.lt, .bool n.acc]] w fun e w' => e = .returned (.bool (formP n)) ∧ Below w.heap.size w w' := by
  have hGl := hG.lt
  obtain ⟨W0, hW0⟩ : ∃ W0, w.alloc (.cells #[.int .i64 n.op, .slice IA n.ins.length ic, .slice SA n.side.length sc, .string ⟨n.text.toArray⟩, .int .i64 n.ty.kind, .slice A n.ty.args.length c, .int .i64 n.f0, .int .i64 n.f1, .int .i64 n.f2, .int .i64 n.f3, .int .i64 n.e, .int .i64 n.l, .int .i64 n.lt, .bool n.acc] 83) = W0 := ⟨_, rfl⟩
  have hx : W0.heap[w.heap.size]? = some (.cells #[.int .i64 n.op, .slice IA n.ins.length ic, .slice SA n.side.length sc, .string ⟨n.text.toArray⟩, .int .i64 n.ty.kind, .slice A n.ty.args.length c, .int .i64 n.f0, .int .i64 n.f1, .int .i64 n.f2, .int .i64 n.f3, .int .i64 n.e, .int .i64 n.l, .int .i64 n.lt, .bool n.acc] 83 (0, 0)) := by rw [← hW0]; exact heap_alloc_new w _
  have hB0 : Below w.heap.size w W0 := by rw [← hW0]; exact bl_al (Below.refl _ _) _
  have HT := Lib.hid (hT.below hB0)
  have HG := Lib.hid (hG.kept (hB0.block _ hGl))
  have HW0 := Lib.hid hW0
  have HX := Lib.hid hx
  have HB0 := Lib.hid hB0
  clear hT hG hW0 hx hB0
  go_enter Tryz.func69, Tryz.ntmps69
  go_upto_region 1 with (fail)
  rw [HW0.out]
  clear HW0
  have c0 := cellN (i := 0) HX.out rfl
  have c3 := cellN (i := 3) HX.out rfl
  have c4 := cellN (i := 4) HX.out rfl
  have c5 := cellN (i := 5) HX.out rfl
  have c6 := cellN (i := 6) HX.out rfl
  have c7 := cellN (i := 7) HX.out rfl
  have c8 := cellN (i := 8) HX.out rfl
  have c9 := cellN (i := 9) HX.out rfl
  have c10 := cellN (i := 10) HX.out rfl
  have c11 := cellN (i := 11) HX.out rfl
  have c12 := cellN (i := 12) HX.out rfl
  have c13 := cellN (i := 13) HX.out rfl
  have cl := cell_lt HX.out
  go_upto_region 2 with (fail)
  generalize htx : n.text.isEmpty = tx
  obtain ⟨ty, hty⟩ : ∃ b, noTy n = b := ⟨_, rfl⟩
  obtain ⟨fn, hfn⟩ : ∃ b, noFn n = b := ⟨_, rfl⟩
  obtain ⟨sp, hsp⟩ : ∃ b, noSp n = b := ⟨_, rfl⟩
  have HTX : Hid (noTx n = tx) := Lib.hid htx
  have HTY := Lib.hid hty
  have HFN := Lib.hid hfn
  have HSP := Lib.hid hsp
  clear htx hty hfn hsp
  go_cut [4] from 10 to 21 (fun s4 wx => s4 = .bool ty ∧ wx = W0)
  case first =>
    obtain ⟨kb, hkb⟩ : ∃ b, (n.ty.kind == 0) = b := ⟨_, rfl⟩
    obtain ⟨lb, hlb⟩ : ∃ b, ((n.ty.args.length : Int) == 0) = b := ⟨_, rfl⟩
    have HK : Hid (ty = (kb && lb)) := Lib.hid (by
      rw [← HTY.out, ← hkb, ← hlb]
      unfold noTy
      congr 1
      rw [Bool.eq_iff_iff]
      simp)
    cases kb <;> cases lb <;> (
      go_wp2_with (fail)
      go_meet
      exact ⟨by rw [HK.out]; rfl, rfl⟩)
  case rest =>
  obtain ⟨rfl, rfl⟩ := hcut
  have g1 := fun w' => Tryz.guFn .eql w'
  have g2 := fun w' => Tryz.guSp .eql w'
  have q1 : ∀ w', (binOp .eql 69 (.agg #[.int .i64 n.f0, .int .i64 n.f1, .int .i64 n.f2, .int .i64 n.f3]) (.agg #[.int .i64 0, .int .i64 0, .int .i64 0, .int .i64 0])).run Tryz.prog w' = .ok (.bool fn) w' := fun w' => by rw [Tryz.eqFn, ← HFN.out]; rfl
  have q2 : ∀ w', (binOp .eql 71 (.agg #[.int .i64 n.e, .int .i64 n.l, .int .i64 n.lt, .bool n.acc]) (.agg #[.int .i64 0, .int .i64 0, .int .i64 0, .bool false])).run Tryz.prog w' = .ok (.bool sp) w' := fun w' => by rw [Tryz.eqSp, ← HSP.out]; rfl
  go_upto_region 5 with (fail)
  clear g1 g2 q1 q2
  by_cases h1 : n.op = 1
  · have o1 : (n.op == 1) = true := by simp [h1]
    have o2 : (n.op == 2) = false := by simp [h1]
    have o3 : (n.op == 3) = false := by simp [h1]
    have o4 : (n.op == 4) = false := by simp [h1]
    obtain ⟨b, hq⟩ : ∃ b, (Knd.measureT 6 n.ty).isSome = b := ⟨_, rfl⟩
    have HF : Hid (formP n = (tx && (b && (fn && sp)))) := Lib.hid (by unfold formP; simp only [h1, HTX.out, HTY.out, HFN.out, HSP.out, hq]; simp)
    have HC := Lib.hid (Knd.check_any d S _ n.ty wc HT.out HG.out)
    have HQ := Lib.hid hq
    clear h1 hq
    go_wp2_with (go_at_call 90; (with_reducible refine HC.out.mono ?_); rintro e w1 ⟨he, hb1⟩; unfold Knd.ChOut at he; rw [HQ.out] at he; subst he; have HB := Lib.hid (HB0.out.trans (hb1.mono HB0.out.size)); clear hb1; cases b <;> cases tx <;> cases fn <;> cases sp)
    all_goals (
      go_ret
      rw [HF.out]
      exact ⟨rfl, HB.out⟩)
  by_cases h2 : n.op = 2
  · have o1 : (n.op == 1) = false := by simp [h2]
    have o2 : (n.op == 2) = true := by simp [h2]
    have o3 : (n.op == 3) = false := by simp [h2]
    have o4 : (n.op == 4) = false := by simp [h2]
    obtain ⟨b, hq⟩ : ∃ b, isTx n.text = b := ⟨_, rfl⟩
    have HF : Hid (formP n = (b && (ty && (fn && sp)))) := Lib.hid (by unfold formP; simp only [h2, HTX.out, HTY.out, HFN.out, HSP.out, hq]; simp)
    have HC := Lib.hid (isText_any n.text wc)
    rw [hq] at HC
    have HQ := Lib.hid hq
    clear h2 hq
    go_wp2_with (go_at_call 91; (with_reducible refine HC.out.mono ?_); rintro e w1 ⟨rfl, rfl⟩; have HB := HB0; cases b <;> cases ty <;> cases fn <;> cases sp)
    all_goals (
      go_ret
      rw [HF.out]
      exact ⟨rfl, HB.out⟩)
  by_cases h3 : n.op = 3
  · have o1 : (n.op == 1) = false := by simp [h3]
    have o2 : (n.op == 2) = false := by simp [h3]
    have o3 : (n.op == 3) = true := by simp [h3]
    have o4 : (n.op == 4) = false := by simp [h3]
    obtain ⟨b, hq⟩ : ∃ b, Wi.rgtB n.f0 n.f1 n.f2 n.f3 = b := ⟨_, rfl⟩
    have HF : Hid (formP n = (tx && (ty && (b && sp)))) := Lib.hid (by unfold formP; simp only [h3, HTX.out, HTY.out, HFN.out, HSP.out, hq]; simp)
    have HC := Lib.hid (Wi.check_any n.f0 n.f1 n.f2 n.f3 wc)
    rw [hq] at HC
    have HQ := Lib.hid hq
    clear h3 hq
    go_wp2_with (go_at_call 92; (with_reducible refine HC.out.mono ?_); rintro e w1 ⟨rfl, hb1⟩; have HB := Lib.hid (HB0.out.trans (hb1.mono HB0.out.size)); clear hb1; cases b <;> cases tx <;> cases ty <;> cases sp)
    all_goals (
      go_ret
      rw [HF.out]
      exact ⟨rfl, HB.out⟩)
  by_cases h4 : n.op = 4
  · have o1 : (n.op == 1) = false := by simp [h4]
    have o2 : (n.op == 2) = false := by simp [h4]
    have o3 : (n.op == 3) = false := by simp [h4]
    have o4 : (n.op == 4) = true := by simp [h4]
    obtain ⟨b, hq⟩ : ∃ b, isTx n.text = b := ⟨_, rfl⟩
    obtain ⟨b', hq'⟩ : ∃ b, Tg.RightB n.e n.l n.lt = b := ⟨_, rfl⟩
    have HF : Hid (formP n = (b && (ty && (fn && b')))) := Lib.hid (by unfold formP; simp only [h4, HTX.out, HTY.out, HFN.out, HSP.out, hq, hq']; simp)
    have HC := Lib.hid (isText_any n.text wc)
    rw [hq] at HC
    have HC2 : Hid (∀ W : World, Calls Tryz.prog 93 #[.agg #[.int .i64 n.e, .int .i64 n.l, .int .i64 n.lt, .bool n.acc]] W fun e w' => e = .returned (.int .i64 (if b' = true then 0 else 100)) ∧ Below W.heap.size W w') := Lib.hid fun W => by
      cases b' with
      | true =>
        refine (Tg.check_yes n.e n.l n.lt n.acc W (of_decide_eq_true hq')).mono ?_
        rintro e w' ⟨rfl, rfl⟩
        exact ⟨rfl, bl_al (Below.refl _ _) _⟩
      | false =>
        refine (Tg.check_no n.e n.l n.lt n.acc W (of_decide_eq_false hq')).mono ?_
        rintro e w' ⟨rfl, rfl⟩
        exact ⟨rfl, bl_al (Below.refl _ _) _⟩
    clear h4 hq hq'
    go_wp2_with (first
      | (go_at_call 91; (with_reducible refine HC.out.mono ?_); rintro e w1 ⟨rfl, rfl⟩)
      | (go_at_call 93; (with_reducible refine (HC2.out _).mono ?_); rintro e w2 ⟨rfl, hb1⟩; have HB := Lib.hid (HB0.out.trans (hb1.mono HB0.out.size)); clear hb1; cases b' <;> cases b <;> cases ty <;> cases fn)
      | fail)
    all_goals (
      go_ret
      rw [HF.out]
      exact ⟨rfl, HB.out⟩)
  have HF : Hid (formP n = (tx && (ty && (fn && sp)))) := Lib.hid (by unfold formP; simp only [HTX.out, HTY.out, HFN.out, HSP.out, h1, h2, h3, h4]; simp)
  have o1 : (n.op == 1) = false := by simp [h1]
  have o2 : (n.op == 2) = false := by simp [h2]
  have o3 : (n.op == 3) = false := by simp [h3]
  have o4 : (n.op == 4) = false := by simp [h4]
  clear h1 h2 h3 h4
  have HB := HB0
  cases tx <;> cases ty <;> cases fn <;> cases sp <;> (
    go_wp2_with (fail)
    go_ret
    rw [HF.out]
    exact ⟨rfl, HB.out⟩)
end Go.Proofs.YtllnamhgnbdkmaaGreatDoor
