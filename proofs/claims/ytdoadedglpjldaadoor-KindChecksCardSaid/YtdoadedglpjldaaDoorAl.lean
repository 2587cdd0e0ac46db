/-
Same of package kind: alike, slices.EqualFunc.
-/
import Derived.Test.YtdoadedglpjldaaDoorFit
import Derived.Test.YtdoadedglpjldaaDoorWr
namespace Go.Proofs.YtdoadedglpjldaaDoor
open Go.RowKit

/-- Are two types alike? -/
def eqL (f : Ty → Ty → Bool) : List Ty → List Ty → Bool
  | [], [] => true
  | a :: l, b :: m => f a b && eqL f l m
  | _, _ => false
def eqT : Nat → Ty → Ty → Bool
  | 0, _, _ => false
  | r + 1, a, b => (a.kind == b.kind) && eqL (eqT r) a.args b.args

theorem eqL_self (f : Ty → Ty → Bool) : ∀ l : List Ty, (∀ a ∈ l, f a a = true) → eqL f l l = true
  | [], _ => rfl
  | a :: l, h => by
    simp only [eqL, Bool.and_eq_true]
    exact ⟨h a (List.mem_cons_self ..), eqL_self f l (fun b hb => h b (List.mem_cons_of_mem _ hb))⟩
theorem eqT_self : ∀ (r : Nat) (t : Ty) (q : Nat), measureT r t = some q → eqT r t t = true
  | 0, t, q, h => by simp [measureT] at h
  | r + 1, t, q, h => by
    obtain ⟨x, _, _, _, hall⟩ := measure_right h
    simp only [eqT, beq_self_eq_true, Bool.true_and]
    exact eqL_self _ _ fun a ha => by
      obtain ⟨q', hq⟩ := hall a ha
      exact eqT_self r a q' hq
theorem eqL_len (f : Ty → Ty → Bool) : ∀ l m : List Ty, l.length ≠ m.length → eqL f l m = false
  | [], [], h => absurd rfl h
  | [], b :: m, _ => rfl
  | a :: l, [], _ => rfl
  | a :: l, b :: m, h => by
    simp only [eqL]
    rw [eqL_len f l m (fun e => h (by simp [e])), Bool.and_false]

/-- The cells of an Arg. -/
theorem arg_cells {w : World} {S : Nat → Prop} {d b o j : Nat} {l : List Ty} (hc : ∀ (j : Nat) (a : Ty), l[j]? = some a → ∃ u0 u1, w.cell? ⟨b, o + j * 2, none⟩ = some u0 ∧ w.cell? ⟨b, o + j * 2 + 1, none⟩ = some u1 ∧ TyAt w S d (.agg #[u0, u1]) a) (h : j < l.length) :
    ∃ A' c', w.cell? ⟨b, o + j * 2, none⟩ = some (.int .i64 (l[j]).kind) ∧ w.cell? ⟨b, o + j * 2 + 1, none⟩ = some (.slice A' (l[j]).args.length c') ∧ TyAt w S d (.agg #[.int .i64 (l[j]).kind, .slice A' (l[j]).args.length c']) (l[j]) ∧ b < w.heap.size := by
  obtain ⟨u0, u1, h0, h1, h2⟩ := hc j _ (List.getElem?_eq_getElem h)
  have hbl := World.block_lt_of_cell? w _ h0
  obtain ⟨A', c', he'⟩ := h2.form
  injection he' with he'
  obtain ⟨rfl, rfl⟩ : u0 = .int .i64 (l[j]).kind ∧ u1 = .slice A' (l[j]).args.length c' := by
    have := congrArg Array.toList he'
    simpa using this
  exact ⟨A', c', h0, h1, h2, hbl⟩

/-- A list of types lies there. -/
def ArgsAt (w : World) (S : Nat → Prop) (d : Nat) (A : Option Addr) (l : List Ty) : Prop :=
  0 < l.length → ∃ b o, A = some ⟨b, o, none⟩ ∧ S b ∧ ∀ (j : Nat) (a : Ty), l[j]? = some a → ∃ u0 u1, w.cell? ⟨b, o + j * 2, none⟩ = some u0 ∧ w.cell? ⟨b, o + j * 2 + 1, none⟩ = some u1 ∧ TyAt w S d (.agg #[u0, u1]) a

def AlOk (r : Nat) : Prop := ∀ (d d' : Nat) (S S' : Nat → Prop) (v v' : Value) (a b : Ty) (q : Nat) (w : World), measureT r a = some q → TyAt w S d v a → TyAt w S' d' v' b →
    Calls Tryd.prog 33 #[v, v'] w fun e w' => e = .returned (.bool (eqT r a b)) ∧ Below w.heap.size w w'

set_option maxRecDepth 100000 in
set_option maxHeartbeats 1000000 in
theorem equalFunc_any (r d d' : Nat) (S S' : Nat → Prop) (A A' : Option Addr) (c c' : Nat) (l m : List Ty) (w : World) (hr : AlOk r) (hl : ∀ a ∈ l, ∃ q, measureT r a = some q) (hl2 : l.length ≤ 2) (hA : ArgsAt w S d A l) (hA' : ArgsAt w S' d' A' m) (_hc : l.length ≤ c) (_hc' : m.length ≤ c') :
    Calls Tryd.prog 40 #[.slice A l.length c, .slice A' m.length c', .func (.func 33) #[] #[]] w fun e w' => e = .returned (.bool (eqL (eqT r) l m)) ∧ Below w.heap.size w w' := by
  have HR := Lib.hid hr
  have HA := Lib.hid hA
  have HA' := Lib.hid hA'
  have HL := Lib.hid hl
  clear hr hA hA' hl
  by_cases hlen : l.length = m.length
  · have hne : ((l.length : Int) != (m.length : Int)) = false := by simp [hlen]
    have HLEN := Lib.hid hlen
    clear hlen
    go_enter Tryd.func40, Tryd.ntmps40
    go_wp2_with (fail)
    go_loopw [17] (fun i wr => ∃ j : Nat, i = .int .i64 j ∧ j ≤ l.length ∧ Hid (eqL (eqT r) l m = eqL (eqT r) (l.drop j) (m.drop j)) ∧ Below w.heap.size w wr) (fun i _ => 10 - (intOf i).toNat)
    case atStart => exact ⟨0, rfl, by omega, rfl, Below.refl _ _⟩
    case round =>
      obtain ⟨j, rfl, hj, HE, hbr⟩ := hrel
      have hsr := hbr.size
      by_cases hlt : j < l.length
      · have hltm : j < m.length := by have := HLEN.out; omega
        obtain ⟨b, o, rfl, hSb, hcells⟩ := HA.out (by omega)
        obtain ⟨b', o', rfl, hSb', hcells'⟩ := HA'.out (by omega)
        obtain ⟨B1, k1, h0, h1, h2, hbl⟩ := arg_cells hcells hlt
        obtain ⟨B2, k2, h0', h1', h2', hbl'⟩ := arg_cells hcells' hltm
        have g0 := (hbr.cell (p := ⟨b, o + j * 2, none⟩) hbl).trans h0
        have g1 := (hbr.cell (p := ⟨b, o + j * 2 + 1, none⟩) hbl).trans h1
        have g0' := (hbr.cell (p := ⟨b', o' + j * 2, none⟩) hbl').trans h0'
        have g1' := (hbr.cell (p := ⟨b', o' + j * 2 + 1, none⟩) hbl').trans h1'
        have hbw' : b' < wr.heap.size := by omega
        obtain ⟨q, hq⟩ := HL.out _ (List.getElem_mem hlt)
        have hd : l.drop j = l[j] :: l.drop (j + 1) := List.drop_eq_getElem_cons hlt
        have hd' : m.drop j = m[j] :: m.drop (j + 1) := List.drop_eq_getElem_cons hltm
        generalize l[j] = x at *
        generalize m[j] = y at *
        have HD := Lib.hid hd
        have HD' := Lib.hid hd'
        have H2 := Lib.hid (h2.below hbr)
        have H2' := Lib.hid (h2'.below hbr)
        have HQ := Lib.hid hq
        clear h0 h1 h2 h0' h1' h2' hd hd' hq hcells hcells'
        go_wp2_with (fail)
        have hba := ((Below.refl wr.heap.size wr).alloc (Nat.le_refl _) (.cells #[.int .i64 x.kind, .slice B1 x.args.length k1] 24)).alloc (by simp) (.cells #[.int .i64 y.kind, .slice B2 y.args.length k2] 24)
        refine (HR.out d d' S S' _ _ x y q _ HQ.out (H2.out.below hba) (H2'.out.below hba)).mono ?_
        rintro e w3 ⟨rfl, hb3⟩
        have hb4 := (hbr.trans (hba.mono hsr)).trans (hb3.mono (by simp; omega))
        cases hxy : eqT r x y with
        | false =>
          have HF : Hid (eqL (eqT r) l m = false) := by show _ = _; rw [HE.out, HD.out, HD'.out]; simp only [eqL, hxy, Bool.false_and]
          clear hxy
          go_wp2
          go_ret
          rw [HF.out]
          exact ⟨rfl, hb4⟩
        | true =>
          have HF : Hid (eqL (eqT r) l m = eqL (eqT r) (l.drop (j + 1)) (m.drop (j + 1))) := by show _ = _; rw [HE.out, HD.out, HD'.out]; simp only [eqL, hxy, Bool.true_and]
          clear hxy
          go_wp2
          go_roundw
          case rel => exact ⟨j + 1, by go_num, by omega, HF, hb4⟩
          case measure => simp [intOf]; omega
      · have HF : Hid (eqL (eqT r) l m = true) := by
          show _ = _
          rw [HE.out, List.drop_of_length_le (by omega), List.drop_of_length_le (by have := HLEN.out; omega)]
          rfl
        go_wp2
        go_ret
        rw [HF.out]
        exact ⟨rfl, hbr⟩
  · have hne : ((l.length : Int) != (m.length : Int)) = true := by simp; omega
    have HF : Hid (eqL (eqT r) l m = false) := eqL_len _ _ _ hlen
    clear hlen
    go_enter Tryd.func40, Tryd.ntmps40
    go_wp2_with (fail)
    go_ret
    rw [HF.out]
    exact ⟨rfl, Below.refl _ _⟩

set_option maxRecDepth 100000 in
set_option maxHeartbeats 1000000 in
theorem alike_any : ∀ r : Nat, AlOk r
  | 0 => fun d d' S S' v v' a b q w hm _ _ => by simp [measureT] at hm
  | r + 1 => fun d d' S S' v v' a b q w hm hT hT' => by
    obtain ⟨x, hx, hxa, hxw, hall⟩ := measure_right hm
    have hx2 := words_args x hxw
    have IH := alike_any r
    have HIH := Lib.hid IH
    have HALL := Lib.hid hall
    have hlen2 : a.args.length ≤ 2 := by omega
    cases d with
    | zero => exact hT.elim
    | succ d =>
    cases d' with
    | zero => exact hT'.elim
    | succ d' =>
    have hb2 : ∀ o o' : Obj, Below w.heap.size w ((w.alloc o).alloc o') := fun o o' => ((Below.refl _ w).alloc (Nat.le_refl _) o).alloc (by simp) o'
    have HT := Lib.hid hT
    have HT' := Lib.hid hT'
    obtain ⟨A, c, rfl, hlc, hA⟩ := hT
    obtain ⟨A', c', rfl, hlc', hA'⟩ := hT'
    clear hx hxa hall IH hm hA hA'
    by_cases hk : a.kind = b.kind
    · have hkb : (a.kind == b.kind) = true := by simp [hk]
      have HF : Hid (eqT (r + 1) a b = eqL (eqT r) a.args b.args) := by show _ = _; simp only [eqT, hkb, Bool.true_and]
      clear hk
      go_enter Tryd.func33, Tryd.ntmps33
      go_wp2_with (fail)
      obtain ⟨A1, c1, he1, hlc1, hA1⟩ := HT.out.below (hb2 (.cells #[.int .i64 a.kind, .slice A a.args.length c] 24) (.cells #[.int .i64 b.kind, .slice A' b.args.length c'] 24))
      obtain ⟨A2, c2, he2, hlc2, hA2⟩ := HT'.out.below (hb2 (.cells #[.int .i64 a.kind, .slice A a.args.length c] 24) (.cells #[.int .i64 b.kind, .slice A' b.args.length c'] 24))
      have e1 : A = A1 ∧ c = c1 := by simpa using he1
      have e2 : A' = A2 ∧ c' = c2 := by simpa using he2
      obtain ⟨rfl, rfl⟩ := e1
      obtain ⟨rfl, rfl⟩ := e2
      refine (equalFunc_any r d d' S S' A A' c c' a.args b.args _ HIH.out HALL.out hlen2 hA1 hA2 hlc hlc').mono ?_
      rintro e w3 ⟨rfl, hb3⟩
      go_wp2
      go_ret
      rw [HF.out]
      exact ⟨rfl, (hb2 _ _).trans (hb3.mono (by simp; omega))⟩
    · have hkb : (a.kind == b.kind) = false := by simp [hk]
      have HF : Hid (eqT (r + 1) a b = false) := by show _ = _; simp only [eqT, hkb, Bool.false_and]
      clear hk
      go_enter Tryd.func33, Tryd.ntmps33
      go_wp2_with (fail)
      go_ret
      rw [HF.out]
      exact ⟨rfl, hb2 _ _⟩

/-- What Same answers. -/
def sameT (a b : Ty) : Bool := (measureT 6 a).isSome && ((measureT 6 b).isSome && eqT 6 a b)

set_option maxRecDepth 100000 in
set_option maxHeartbeats 1000000 in
theorem same_any (d d' : Nat) (S S' : Nat → Prop) (v v' : Value) (a b : Ty) (w : World) (hT : TyAt w S d v a) (hT' : TyAt w S' d' v' b) (hG : Glob w) :
    Calls Tryd.prog 16 #[v, v'] w fun e w' => e = .returned (.bool (sameT a b)) ∧ Below w.heap.size w w' := by
  have hGl := hG.lt
  have HT := Lib.hid hT
  have HT' := Lib.hid hT'
  obtain ⟨A, c, rfl⟩ := hT.form
  obtain ⟨A', c', rfl⟩ := hT'.form
  have hb2 := ((Below.refl w.heap.size w).alloc (Nat.le_refl _) (.cells #[.int .i64 a.kind, .slice A a.args.length c] 24)).alloc (by simp) (.cells #[.int .i64 b.kind, .slice A' b.args.length c'] 24)
  have hz2 : w.heap.size + 2 ≤ ((w.alloc (.cells #[.int .i64 a.kind, .slice A a.args.length c] 24)).alloc (.cells #[.int .i64 b.kind, .slice A' b.args.length c'] 24)).heap.size := by simp
  have hx0 := (Below.heap_alloc (w.alloc (.cells #[.int .i64 a.kind, .slice A a.args.length c] 24)) (.cells #[.int .i64 b.kind, .slice A' b.args.length c'] 24) w.heap.size (by simp)).trans (heap_alloc_new w _)
  have hx1 : ((w.alloc (.cells #[.int .i64 a.kind, .slice A a.args.length c] 24)).alloc (.cells #[.int .i64 b.kind, .slice A' b.args.length c'] 24)).heap[w.heap.size + 1]? = some (.cells #[.int .i64 b.kind, .slice A' b.args.length c'] 24 (0, 0)) := by simpa using heap_alloc_new (w.alloc (.cells #[.int .i64 a.kind, .slice A a.args.length c] 24)) (.cells #[.int .i64 b.kind, .slice A' b.args.length c'] 24)
  clear hT hT'
  go_enter Tryd.func16, Tryd.ntmps16
  go_wp2_with (fail)
  refine (check_any d _ _ a _ (HT.out.below hb2) (hG.kept (hb2.block 0 hGl))).mono ?_
  rintro e w1 ⟨he, hb1⟩
  have hb3 := hb2.trans (hb1.mono (by simp; omega))
  have hs1 := hb1.size
  have hy1 := (hb1.block (w.heap.size + 1) (by simp)).trans hx1
  have hy0 := (hb1.block w.heap.size (by simp; omega)).trans hx0
  have c0 := cell2_0 hy0
  have c1 := cell2_1 hy0
  have d0 := cell2_0 hy1
  have d1 := cell2_1 hy1
  have hl1 := cell_lt hy1
  clear hx0 hx1
  cases hm : measureT 6 a with
  | none =>
    rw [hm] at he
    obtain rfl : e = .returned (.int .i64 20) := he
    have HF : Hid (sameT a b = false) := by show _ = _; simp only [sameT, hm, Option.isSome_none, Bool.false_and]
    clear hm
    go_wp2_with (fail)
    go_ret
    rw [HF.out]
    exact ⟨rfl, hb3⟩
  | some q =>
    rw [hm] at he
    obtain rfl : e = .returned (.int .i64 0) := he
    have HM := Lib.hid hm
    clear hm
    go_wp2_with (fail)
    refine (check_any d' _ _ b _ ((HT'.out.below hb2).below hb1) (hG.kept (hb3.block 0 hGl))).mono ?_
    rintro e w2 ⟨he, hb4⟩
    have hb5 := hb3.trans (hb4.mono (by omega))
    have hy2 := (hb4.block (w.heap.size + 1) (by omega)).trans hy1
    have hy3 := (hb4.block w.heap.size (by omega)).trans hy0
    clear c0 c1 d0 d1
    have c0 := cell2_0 hy3
    have c1 := cell2_1 hy3
    have d0 := cell2_0 hy2
    have d1 := cell2_1 hy2
    cases hm2 : measureT 6 b with
    | none =>
      rw [hm2] at he
      obtain rfl : e = .returned (.int .i64 20) := he
      have HF : Hid (sameT a b = false) := by show _ = _; simp only [sameT, hm2, Option.isSome_none, Bool.false_and, Bool.and_false]
      clear hm2
      go_wp2_with (fail)
      go_ret
      rw [HF.out]
      exact ⟨rfl, hb5⟩
    | some q2 =>
      rw [hm2] at he
      obtain rfl : e = .returned (.int .i64 0) := he
      have HF : Hid (sameT a b = eqT 6 a b) := by show _ = _; simp only [sameT, hm2, HM.out, Option.isSome_some, Bool.true_and]
      clear hm2
      go_wp2_with (fail)
      refine (alike_any 6 d d' _ _ _ _ a b q _ HM.out (((HT.out.below hb2).below hb1).below hb4) (((HT'.out.below hb2).below hb1).below hb4)).mono ?_
      rintro e w3 ⟨rfl, hb6⟩
      go_wp2_with (fail)
      go_ret
      rw [HF.out]
      exact ⟨rfl, hb5.trans (hb6.mono (by have := hb4.size; omega))⟩

theorem sameT_self {t : Ty} {q : Nat} (h : measureT 6 t = some q) : sameT t t = true := by
  simp only [sameT, h, Option.isSome_some, Bool.true_and]
  exact eqT_self 6 t q h
end Go.Proofs.YtdoadedglpjldaaDoor
