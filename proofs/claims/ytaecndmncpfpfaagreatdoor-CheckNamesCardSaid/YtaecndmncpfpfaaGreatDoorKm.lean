import Derived.Test.YtaecndmncpfpfaaGreatDoorKd
import Derived.Laws.MakeOwn
namespace Go.Proofs.YtaecndmncpfpfaaGreatDoor.Knd
open Go.RowKit
def eqL (f : Ty → Ty → Bool) : List Ty → List Ty → Bool
 | [], [] => true
 | a :: l, b :: m => f a b && eqL f l m
 | _, _ => false
def eqT : Nat → Ty → Ty → Bool
 | 0, _, _ => false
 | r + 1, a, b => (a.kind == b.kind) && eqL (eqT r) a.args b.args
theorem eqL_len (f : Ty → Ty → Bool) : ∀ l m : List Ty, l.length ≠ m.length → eqL f l m = false
 | [], [], h => absurd rfl h
 | [], b :: m, _ => rfl
 | a :: l, [], _ => rfl
 | a :: l, b :: m, h => by
   simp only [eqL]
   rw [eqL_len f l m (fun e => h (by simp [e])), Bool.and_false]
def yE (w : World) (S : Nat → Prop) (d : Nat) (A : Option Addr) (l : List Ty) : Prop :=
 0 < l.length → ∃ b o, A = some ⟨b, o, none⟩ ∧ S b ∧ ∀ (j : Nat) (a : Ty), l[j]? = some a → ∃ u0 u1, w.cell? ⟨b, o + j * 2, none⟩ = some u0 ∧ w.cell? ⟨b, o + j * 2 + 1, none⟩ = some u1 ∧ TyAt w S d (.agg #[u0, u1]) a
def AlOk (r : Nat) : Prop := ∀ (d d' : Nat) (S S' : Nat → Prop) (v v' : Value) (a b : Ty) (q : Nat) (w : World), zH r a = some q → TyAt w S d v a → TyAt w S' d' v' b →
    Calls Tryz.prog 49 #[v, v'] w fun e w' => e = .returned (.bool (eqT r a b)) ∧ Below w.heap.size w w'
set_option maxRecDepth 100000 in
set_option maxHeartbeats 1000000 in
theorem equalFunc_any (r d d' : Nat) (S S' : Nat → Prop) (A A' : Option Addr) (c c' : Nat) (l m : List Ty) (w : World) (hr : AlOk r) (hl : ∀ a ∈ l, ∃ q, zH r a = some q) (hl2 : l.length ≤ 2) (hA : yE w S d A l) (hA' : yE w S' d' A' m) (_hc : l.length ≤ c) (_hc' : m.length ≤ c') :
    Calls Tryz.prog 80 #[.slice A l.length c, .slice A' m.length c', .func (.func 49) #[] #[]] w fun e w' => e = .returned (.bool (eqL (eqT r) l m)) ∧ Below w.heap.size w w' := by
 have HR := Lib.hid hr
 have HA := Lib.hid hA
 have HA' := Lib.hid hA'
 have HL := Lib.hid hl
 clear hr hA hA' hl
 by_cases hlen : l.length = m.length
 · have hne : ((l.length : Int) != (m.length : Int)) = false := by simp [hlen]
   have HLEN := Lib.hid hlen
   clear hlen
   go_enter Tryz.func80, Tryz.ntmps80
   go_wp2_with (fail)
   go_loopw [17] (fun i wr => ∃ j : Nat, i = .int .i64 j ∧ j ≤ l.length ∧ Hid (eqL (eqT r) l m = eqL (eqT r) (l.drop j) (m.drop j)) ∧ Below w.heap.size w wr) (fun i _ => 10 - (intOf i).toNat)
   case atStart => exact ⟨0, rfl, by omega, rfl, Below.refl _ _⟩
   case round =>
    obtain ⟨j, rfl, hj, HE, hbr⟩ := hrel
    have hsr := hbr.size
    by_cases hlt : j < l.length
    · have hltm : j < m.length := by have := HLEN.out; omega
      obtain ⟨b, o, rfl, hSb, hcells⟩ := HA.out (by omega)
      obtain ⟨b', o', rfl, hSb', hcells'⟩ := HA'.out (by omega)
      obtain ⟨B1, k1, h0, h1, h2, hbl⟩ := arg_cells hcells hlt
      obtain ⟨B2, k2, h0', h1', h2', hbl'⟩ := arg_cells hcells' hltm
      have g0 := (hbr.cell (p := ⟨b, o + j * 2, none⟩) hbl).trans h0
      have g1 := (hbr.cell (p := ⟨b, o + j * 2 + 1, none⟩) hbl).trans h1
      have g0' := (hbr.cell (p := ⟨b', o' + j * 2, none⟩) hbl').trans h0'
      have g1' := (hbr.cell (p := ⟨b', o' + j * 2 + 1, none⟩) hbl').trans h1'
      have hbw' : b' < wr.heap.size := by omega
      obtain ⟨q, hq⟩ := HL.out _ (List.getElem_mem hlt)
      have hd : l.drop j = l[j] :: l.drop (j + 1) := List.drop_eq_getElem_cons hlt
      have hd' : m.drop j = m[j] :: m.drop (j + 1) := List.drop_eq_getElem_cons hltm
      generalize l[j] = x at *
      generalize m[j] = y at *
      have HD := Lib.hid hd
      have HD' := Lib.hid hd'
      have H2 := Lib.hid (h2.below hbr)
      have H2' := Lib.hid (h2'.below hbr)
      have HQ := Lib.hid hq
      clear h0 h1 h2 h0' h1' h2' hd hd' hq hcells hcells'
      go_wp2_with (fail)
      have hba := ((Below.refl wr.heap.size wr).alloc (Nat.le_refl _) (.cells #[.int .i64 x.kind, .slice B1 x.args.length k1] 34)).alloc (by simp) (.cells #[.int .i64 y.kind, .slice B2 y.args.length k2] 34)
      refine (HR.out d d' S S' _ _ x y q _ HQ.out (H2.out.below hba) (H2'.out.below hba)).mono ?_
      rintro e w3 ⟨rfl, hb3⟩
      have hb4 := (hbr.trans (hba.mono hsr)).trans (hb3.mono (by simp; omega))
      cases hxy : eqT r x y with
      | false =>
        have HF : Hid (eqL (eqT r) l m = false) := by show _ = _; rw [HE.out, HD.out, HD'.out]; simp only [eqL, hxy, Bool.false_and]
        clear hxy
        go_wp2
        go_ret
        rw [HF.out]
        exact ⟨rfl, hb4⟩
      | true =>
        have HF : Hid (eqL (eqT r) l m = eqL (eqT r) (l.drop (j + 1)) (m.drop (j + 1))) := by show _ = _; rw [HE.out, HD.out, HD'.out]; simp only [eqL, hxy, Bool.true_and]
        clear hxy
        go_wp2
        go_roundw
        case rel => exact ⟨j + 1, by go_num, by omega, HF, hb4⟩
        case measure => simp [intOf]; omega
    · have HF : Hid (eqL (eqT r) l m = true) := by
        show _ = _
        rw [HE.out, List.drop_of_length_le (by omega), List.drop_of_length_le (by have := HLEN.out; omega)]
        rfl
      go_wp2
      go_ret
      rw [HF.out]
      exact ⟨rfl, hbr⟩
 · have hne : ((l.length : Int) != (m.length : Int)) = true := by simp; omega
   have HF : Hid (eqL (eqT r) l m = false) := eqL_len _ _ _ hlen
   clear hlen
   go_enter Tryz.func80, Tryz.ntmps80
   go_wp2_with (fail)
   go_ret
   rw [HF.out]
   exact ⟨rfl, Below.refl _ _⟩
set_option maxRecDepth 100000 in
set_option maxHeartbeats 1000000 in
theorem alike_any : ∀ r : Nat, AlOk r
 | 0 => fun d d' S S' v v' a b q w hm _ _ => by simp [zH] at hm
 | r + 1 => fun d d' S S' v v' a b q w hm hT hT' => by
   obtain ⟨x, hx, hxa, hxw, hall⟩ := measure_right hm
   have hx2 := words_args x hxw
   have IH := alike_any r
   have HIH := Lib.hid IH
   have HALL := Lib.hid hall
   have hlen2 : a.args.length ≤ 2 := by omega
   cases d with
   | zero => exact hT.elim
   | succ d =>
   cases d' with
   | zero => exact hT'.elim
   | succ d' =>
   have hb2 : ∀ o o' : Obj, Below w.heap.size w ((w.alloc o).alloc o') := fun o o' => ((Below.refl _ w).alloc (Nat.le_refl _) o).alloc (by simp) o'
   have HT := Lib.hid hT
   have HT' := Lib.hid hT'
   obtain ⟨A, c, rfl, hlc, hA⟩ := hT
   obtain ⟨A', c', rfl, hlc', hA'⟩ := hT'
   clear hx hxa hall IH hm hA hA'
   by_cases hk : a.kind = b.kind
   · have hkb : (a.kind == b.kind) = true := by simp [hk]
     have HF : Hid (eqT (r + 1) a b = eqL (eqT r) a.args b.args) := by show _ = _; simp only [eqT, hkb, Bool.true_and]
     clear hk
     go_enter Tryz.func49, Tryz.ntmps49
     go_wp2_with (fail)
     obtain ⟨A1, c1, he1, hlc1, hA1⟩ := HT.out.below (hb2 (.cells #[.int .i64 a.kind, .slice A a.args.length c] 34) (.cells #[.int .i64 b.kind, .slice A' b.args.length c'] 34))
     obtain ⟨A2, c2, he2, hlc2, hA2⟩ := HT'.out.below (hb2 (.cells #[.int .i64 a.kind, .slice A a.args.length c] 34) (.cells #[.int .i64 b.kind, .slice A' b.args.length c'] 34))
     have e1 : A = A1 ∧ c = c1 := by simpa using he1
     have e2 : A' = A2 ∧ c' = c2 := by simpa using he2
     obtain ⟨rfl, rfl⟩ := e1
     obtain ⟨rfl, rfl⟩ := e2
     refine (equalFunc_any r d d' S S' A A' c c' a.args b.args _ HIH.out HALL.out hlen2 hA1 hA2 hlc hlc').mono ?_
     rintro e w3 ⟨rfl, hb3⟩
     go_wp2
     go_ret
     rw [HF.out]
     exact ⟨rfl, (hb2 _ _).trans (hb3.mono (by simp; omega))⟩
   · have hkb : (a.kind == b.kind) = false := by simp [hk]
     have HF : Hid (eqT (r + 1) a b = false) := by show _ = _; simp only [eqT, hkb, Bool.false_and]
     clear hk
     go_enter Tryz.func49, Tryz.ntmps49
     go_wp2_with (fail)
     go_ret
     rw [HF.out]
     exact ⟨rfl, hb2 _ _⟩
def sameT (a b : Ty) : Bool := (zH 6 a).isSome && ((zH 6 b).isSome && eqT 6 a b)
set_option maxRecDepth 100000 in
set_option maxHeartbeats 1000000 in
theorem same_any (d d' : Nat) (S S' : Nat → Prop) (v v' : Value) (a b : Ty) (w : World) (hT : TyAt w S d v a) (hT' : TyAt w S' d' v' b) (hG : Glob w) :
    Calls Tryz.prog 25 #[v, v'] w fun e w' => e = .returned (.bool (sameT a b)) ∧ Below w.heap.size w w' := by
 have hGl := hG.lt
 have HT := Lib.hid hT
 have HT' := Lib.hid hT'
 obtain ⟨A, c, rfl⟩ := hT.form
 obtain ⟨A', c', rfl⟩ := hT'.form
 have hb2 := ((Below.refl w.heap.size w).alloc (Nat.le_refl _) (.cells #[.int .i64 a.kind, .slice A a.args.length c] 34)).alloc (by simp) (.cells #[.int .i64 b.kind, .slice A' b.args.length c'] 34)
 have hz2 : w.heap.size + 2 ≤ ((w.alloc (.cells #[.int .i64 a.kind, .slice A a.args.length c] 34)).alloc (.cells #[.int .i64 b.kind, .slice A' b.args.length c'] 34)).heap.size := by simp
 have hx0 := (Below.heap_alloc (w.alloc (.cells #[.int .i64 a.kind, .slice A a.args.length c] 34)) (.cells #[.int .i64 b.kind, .slice A' b.args.length c'] 34) w.heap.size (by simp)).trans (heap_alloc_new w _)
 have hx1 : ((w.alloc (.cells #[.int .i64 a.kind, .slice A a.args.length c] 34)).alloc (.cells #[.int .i64 b.kind, .slice A' b.args.length c'] 34)).heap[w.heap.size + 1]? = some (.cells #[.int .i64 b.kind, .slice A' b.args.length c'] 34 (0, 0)) := by simpa using heap_alloc_new (w.alloc (.cells #[.int .i64 a.kind, .slice A a.args.length c] 34)) (.cells #[.int .i64 b.kind, .slice A' b.args.length c'] 34)
 clear hT hT'
 go_enter Tryz.func25, Tryz.ntmps25
 go_wp2_with (fail)
 refine (check_any d _ _ a _ (HT.out.below hb2) (hG.kept (hb2.block 0 hGl))).mono ?_
 rintro e w1 ⟨he, hb1⟩
 have hb3 := hb2.trans (hb1.mono (by simp; omega))
 have hs1 := hb1.size
 have hy1 := (hb1.block (w.heap.size + 1) (by simp)).trans hx1
 have hy0 := (hb1.block w.heap.size (by simp; omega)).trans hx0
 have c0 := zG hy0
 have c1 := zF hy0
 have d0 := zG hy1
 have d1 := zF hy1
 have hl1 := zC hy1
 clear hx0 hx1
 cases hm : zH 6 a with
 | none =>
   rw [hm] at he
   obtain rfl : e = .returned (.int .i64 20) := he
   have HF : Hid (sameT a b = false) := by show _ = _; simp only [sameT, hm, Option.isSome_none, Bool.false_and]
   clear hm
   go_wp2_with (fail)
   go_ret
   rw [HF.out]
   exact ⟨rfl, hb3⟩
 | some q =>
   rw [hm] at he
   obtain rfl : e = .returned (.int .i64 0) := he
   have HM := Lib.hid hm
   clear hm
   go_wp2_with (fail)
   refine (check_any d' _ _ b _ ((HT'.out.below hb2).below hb1) (hG.kept (hb3.block 0 hGl))).mono ?_
   rintro e w2 ⟨he, hb4⟩
   have hb5 := hb3.trans (hb4.mono (by omega))
   have hy2 := (hb4.block (w.heap.size + 1) (by omega)).trans hy1
   have hy3 := (hb4.block w.heap.size (by omega)).trans hy0
   clear c0 c1 d0 d1
   have c0 := zG hy3
   have c1 := zF hy3
   have d0 := zG hy2
   have d1 := zF hy2
   cases hm2 : zH 6 b with
   | none =>
     rw [hm2] at he
     obtain rfl : e = .returned (.int .i64 20) := he
     have HF : Hid (sameT a b = false) := by show _ = _; simp only [sameT, hm2, Option.isSome_none, Bool.false_and, Bool.and_false]
     clear hm2
     go_wp2_with (fail)
     go_ret
     rw [HF.out]
     exact ⟨rfl, hb5⟩
   | some q2 =>
     rw [hm2] at he
     obtain rfl : e = .returned (.int .i64 0) := he
     have HF : Hid (sameT a b = eqT 6 a b) := by show _ = _; simp only [sameT, hm2, HM.out, Option.isSome_some, Bool.true_and]
     clear hm2
     go_wp2_with (fail)
     refine (alike_any 6 d d' _ _ _ _ a b q _ HM.out (((HT.out.below hb2).below hb1).below hb4) (((HT'.out.below hb2).below hb1).below hb4)).mono ?_
     rintro e w3 ⟨rfl, hb6⟩
     go_wp2_with (fail)
     go_ret
     rw [HF.out]
     exact ⟨rfl, hb5.trans (hb6.mono (by have := hb4.size; omega))⟩
end Go.Proofs.YtaecndmncpfpfaaGreatDoor.Knd
namespace Go.Proofs.YtaecndmncpfpfaaGreatDoor.Knd
open Go.RowKit
structure FrInv (w : World) (A : Option Addr) (c : Nat) (t : Ty) (r G j : Nat) (cs : List Value) (wr : World) : Prop where
 below : Below w.heap.size w wr
 size : G < wr.heap.size
 box : wr.heap[w.heap.size]? = some (.cells #[.int .i64 t.kind, .slice A t.args.length c] 34 (0, 0))
 res : wr.heap[w.heap.size + 1]? = some (.cells #[.int .i64 0, .slice none 0 0] 34 (0, 0))
 own : wr.ownsRow G 34 2 (.slice (some ⟨G, 0, none⟩) t.args.length t.args.length) t.args.length cs
 args : ∀ (i : Nat) (a : Ty), i < j → t.args[i]? = some a → ∃ u0 u1, cs[i * 2]? = some u0 ∧ cs[i * 2 + 1]? = some u1 ∧ TyAt wr (fun b => G ≤ b ∧ b ≠ G) r (.agg #[u0, u1]) a
theorem frInv_start (w : World) (A : Option Addr) (c : Nat) (t : Ty) (r : Nat) (RW : Array Value) (h : RW.size = t.args.length * 2) (hl : t.args.length ≤ 2) :
    FrInv w A c t r (w.heap.size + 2) 0 RW.toList (((w.alloc (.cells #[.int .i64 t.kind, .slice A t.args.length c] 34)).alloc (.cells #[.int .i64 0, .slice none 0 0] 34)).alloc (.cells RW 34)) := by
 have e : ((w.alloc (.cells #[.int .i64 t.kind, .slice A t.args.length c] 34)).alloc (.cells #[.int .i64 0, .slice none 0 0] 34)).heap.size = w.heap.size + 2 := by simp
 refine ⟨(((Below.refl _ _).alloc (Nat.le_refl _) _).alloc (by simp) _).alloc (by simp; omega) _, by simp, ?_, ?_, ?_, fun i a hi => by omega⟩
 · rw [Below.heap_alloc _ _ _ (by simp; omega), Below.heap_alloc _ _ _ (by simp)]; exact heap_alloc_new w _
 · rw [Below.heap_alloc _ _ _ (by simp)]; exact (by simpa using heap_alloc_new (w.alloc _) _)
 · have := World.ownsRow_lit (base := w.heap.size + 2) (e := 34) (size := 2) ((w.alloc (.cells #[.int .i64 t.kind, .slice A t.args.length c] 34)).alloc (.cells #[.int .i64 0, .slice none 0 0] 34)) RW t.args.length (by simp) (by unfold maxLen; omega) h
   rwa [e] at this
theorem frInv_row {w wr w3 : World} {A : Option Addr} {c : Nat} {t : Ty} {r G j : Nat} {cs : List Value} (h : FrInv w A c t r G j cs wr) (hb : Below wr.heap.size wr w3) (hj : j < t.args.length) :
    (∃ u, w3.cell? ⟨G, j * 2, none⟩ = some u) ∧ (∃ u, w3.cell? ⟨G, j * 2 + 1, none⟩ = some u) ∧ w3.frozen? ⟨G, j * 2, none⟩ = false ∧ w3.frozen? ⟨G, j * 2 + 1, none⟩ = false := by
 have hl : cs.length = t.args.length * 2 := h.own.1
 have hc := fun (i : Nat) (hi : i < t.args.length * 2) => h.own.cellAt i hi
 refine ⟨⟨cs[j * 2]'(by omega), ?_⟩, ⟨cs[j * 2 + 1]'(by omega), ?_⟩, ?_, ?_⟩
 · rw [hb.cell (p := ⟨G, j * 2, none⟩) h.size, hc _ (by omega)]; exact List.getElem?_eq_getElem _
 · rw [hb.cell (p := ⟨G, j * 2 + 1, none⟩) h.size, hc _ (by omega)]; exact List.getElem?_eq_getElem _
 · rw [hb.frozen (p := ⟨G, j * 2, none⟩) h.size]; exact h.own.frozenAt _
 · rw [hb.frozen (p := ⟨G, j * 2 + 1, none⟩) h.size]; exact h.own.frozenAt _
theorem frInv_next {w wr w2 w3 : World} {A : Option Addr} {c : Nat} {t a : Ty} {r G j : Nat} {cs : List Value} {u0 u1 : Value} (h : FrInv w A c t r G j cs wr) (hb : Below wr.heap.size wr w3) (h2 : wr.heap.size ≤ w2.heap.size) (hj : j < t.args.length) (ha : t.args[j]? = some a) (hT : TyAt w3 (fun b => w2.heap.size ≤ b) r (.agg #[u0, u1]) a)
    (hG : w.heap.size + 2 ≤ G := by omega) :
    FrInv w A c t r G (j + 1) ((cs.set (j * 2) u0).set (j * 2 + 1) u1) ((w3.setCell ⟨G, j * 2, none⟩ u0).setCell ⟨G, j * 2 + 1, none⟩ u1) := by
 have hsz := h.size
 have hcl : cs.length = t.args.length * 2 := h.own.1
 have hws : w.heap.size ≤ wr.heap.size := h.below.size
 have hown3 : w3.ownsRow G 34 2 (.slice (some ⟨G, 0, none⟩) t.args.length t.args.length) t.args.length cs := h.own.kept (row := none) ⟨hb.os, hb.tape, hb.output, hb.size, fun k hk _ => hb.block k hk⟩ (.inr (by simp [Value.ownBlock]))
 have s1 := hown3.stored (j * 2) u0
 have s2 := s1.1.stored (j * 2 + 1) u1
 have far : ∀ b, b ≠ G → ((w3.setCell ⟨G, j * 2, none⟩ u0).setCell ⟨G, j * 2 + 1, none⟩ u1).heap[b]? = w3.heap[b]? := fun b hne => by
  rw [Below.heap_setCell _ _ _ _ (by show b ≠ G; exact hne), Below.heap_setCell _ _ _ _ (by show b ≠ G; exact hne)]
 refine ⟨((h.below.trans (hb.mono hws)).setCell (p := ⟨G, j * 2, none⟩) (by show _ ≤ G; omega) _).setCell (p := ⟨G, j * 2 + 1, none⟩) (by show _ ≤ G; omega) _, ?_, ?_, ?_, s2.1, fun i b hi hib => ?_⟩
 · have := hb.size
   simp only [World.setCell, Array.size_modify]
   omega
 · rw [far _ (by omega), hb.block _ (by omega)]; exact h.box
 · rw [far _ (by omega), hb.block _ (by omega)]; exact h.res
 · rcases Nat.lt_or_ge i j with hlt | hge
   · obtain ⟨x0, x1, e0, e1, e2⟩ := h.args i b hlt hib
     refine ⟨x0, x1, ?_, ?_, (e2.below hb).move fun k hk _ => ⟨hk, fun _ => World.cell?_of_block (far k hk.2)⟩⟩
     · rw [List.getElem?_set_ne (by omega), List.getElem?_set_ne (by omega)]; exact e0
     · rw [List.getElem?_set_ne (by omega), List.getElem?_set_ne (by omega)]; exact e1
   · obtain rfl : i = j := by omega
     rw [ha] at hib
     injection hib with hib
     subst hib
     refine ⟨u0, u1, ?_, ?_, hT.move fun k hk _ => ⟨⟨by omega, by omega⟩, fun _ => World.cell?_of_block (far k (by omega))⟩⟩
     · rw [List.getElem?_set_ne (by omega), List.getElem?_set_self (by omega)]
     · rw [List.getElem?_set_self (by rw [List.length_set]; omega)]
set_option maxRecDepth 100000 in
set_option maxHeartbeats 1000000 in
theorem fresh_any : ∀ (r d : Nat) (S : Nat → Prop) (v : Value) (t : Ty) (q : Nat) (w : World), zH r t = some q → TyAt w S d v t →
    Calls Tryz.prog 64 #[v] w fun e w' => (∃ v', e = .returned v' ∧ TyAt w' (fun b => w.heap.size ≤ b) r v' t) ∧ Below w.heap.size w w'
 | 0, d, S, v, t, q, w, hm, _ => by simp [zH] at hm
 | r + 1, 0, S, v, t, q, w, _, hT => hT.elim
 | r + 1, d + 1, S, v, t, q, w, hm, hT => by
   obtain ⟨i0, hi, hq0, hq1, hq2⟩ := info_parts info24
   obtain ⟨x, hx, hxa, hxw, hall⟩ := measure_right hm
   have hx2 := words_args x hxw
   have IH := fun (d : Nat) => fresh_any r d
   have HIH := Lib.hid IH
   have HALL := Lib.hid hall
   have hlen2 : t.args.length ≤ 2 := by omega
   have HT := Lib.hid hT
   obtain ⟨A, c, rfl, hlc, hA⟩ := hT
   have HA := Lib.hid hA
   clear hA IH hall hx hxa hm
   by_cases hz : t.args.length = 0
   · have hze : ((t.args.length : Int) == 0) = true := by simp [hz]
     have HZ := Lib.hid hz
     clear hz
     go_enter Tryz.func64, Tryz.ntmps64
     go_wp2_with (fail)
     refine bodyPost_ret (v := .agg #[.int .i64 t.kind, .slice none 0 0]) (by simp [results, Tryz.results64, go_sem]) rfl ?_
     refine ⟨⟨_, rfl, none, 0, ?_, by have := HZ.out; omega, fun hl => absurd HZ.out (by omega)⟩, ?_⟩
     · rw [HZ.out]
     · exact ((Below.refl w.heap.size w).alloc (Nat.le_refl _) _).alloc (by simp) _
   · have hze : ((t.args.length : Int) == 0) = false := beq_eq_false_iff_ne.2 (by omega)
     have hmk := fun (W : World) => run_make (P := Tryz.prog) W 32 34 i0 _ Tryz.underlying32 hi hq0 .i64 .i64 (t.args.length : Int) (t.args.length : Int) (by omega) (by omega) (by rw [hq2]; omega) (by omega)
     simp only [Int.toNat_natCast, hq1] at hmk
     go_enter Tryz.func64, Tryz.ntmps64
     go_wp2_with (fail)
     generalize hRW : madeCells #[Value.int IntKind.i64 0, Value.slice none 0 0] (t.args.length * 2) = RW
     have hRWs : RW.size = t.args.length * 2 := by rw [← hRW, size_madeCells]
     clear hRW hmk
     go_loopw [20] (fun i wr => ∃ (j : Nat) (cs : List Value), i = .int .i64 j ∧ j ≤ t.args.length ∧ FrInv w A c t r (w.heap.size + 2) j cs wr) (fun i _ => 10 - (intOf i).toNat)
     case atStart => exact ⟨0, _, rfl, by omega, frInv_start w A c t r RW hRWs hlen2⟩
     case round =>
      obtain ⟨j, cs, rfl, hj, hI⟩ := hrel
      have HI := Lib.hid hI
      have b0 := zG hI.box
      have b1 := zF hI.box
      have r0 := zG hI.res
      have r1 := zF hI.res
      have f0 := zB hI.res 0
      have f1 := zB hI.res 1
      have hbr := hI.below
      have hsz := hI.size
      clear hI
      by_cases hlt : j < t.args.length
      · obtain ⟨b, o, rfl, hSb, hcells⟩ := HA.out (by omega)
        obtain ⟨B1, k1, h0, h1, h2, hbl⟩ := arg_cells hcells hlt
        have g0 := (hbr.cell (p := ⟨b, o + j * 2, none⟩) hbl).trans h0
        have g1 := (hbr.cell (p := ⟨b, o + j * 2 + 1, none⟩) hbl).trans h1
        obtain ⟨q', hq'⟩ := HALL.out _ (List.getElem_mem hlt)
        have hat : t.args[j]? = some t.args[j] := List.getElem?_eq_getElem hlt
        generalize t.args[j] = a at *
        have HAT := Lib.hid hat
        have H2 := Lib.hid (h2.below hbr)
        have HQ := Lib.hid hq'
        clear h0 h1 h2 hat hq' hcells
        go_wp2_with (fail)
        have hba := (Below.refl wr.heap.size wr).alloc (Nat.le_refl _) (.cells #[.int .i64 a.kind, .slice B1 a.args.length k1] 34)
        refine (HIH.out d S _ a q' _ HQ.out (H2.out.below hba)).mono ?_
        rintro e w3 ⟨⟨v3, rfl, hT3⟩, hb3⟩
        obtain ⟨A3, c3, rfl⟩ := hT3.form
        have hrow := frInv_row HI.out (hba.trans (hb3.mono hba.size)) hlt
        obtain ⟨⟨z0, p0⟩, ⟨z1, p1⟩, p2, p3⟩ := hrow
        go_wp2_with (fail)
        go_roundw
        case rel => exact ⟨j + 1, _, by go_num, by omega, frInv_next HI.out (hba.trans (hb3.mono hba.size)) hba.size hlt HAT.out hT3⟩
        case measure => simp [intOf]; omega
      · obtain rfl : j = t.args.length := by omega
        go_wp2_with (fail)
        refine bodyPost_ret (v := .agg #[.int .i64 t.kind, .slice (some ⟨w.heap.size + 2, 0, none⟩) t.args.length t.args.length]) (by simp [results, Tryz.results64, go_sem, r0, r1]) rfl ?_
        have hO := HI.out
        refine ⟨⟨_, rfl, ?_⟩, (hbr.setCell (p := ⟨w.heap.size + 1, 0, none⟩) (by show _ ≤ w.heap.size + 1; omega) _).setCell (p := ⟨w.heap.size + 1, 1, none⟩) (by show _ ≤ w.heap.size + 1; omega) _⟩
        have := ty_made (wF := (wr.setCell ⟨w.heap.size + 1, 0, none⟩ (.int .i64 t.kind)).setCell ⟨w.heap.size + 1, 1, none⟩ (.slice (some ⟨w.heap.size + 2, 0, none⟩) t.args.length t.args.length)) (lo := w.heap.size) (kd := t.kind) (acc := t.args) hO.own rfl (fun i a ha => hO.args i a (List.getElem?_eq_some_iff.1 ha).1 ha) (fun b hb => hb.1) (by omega) (fun b hb hl => by
         rw [Below.heap_setCell _ _ _ _ (by show b ≠ w.heap.size + 1; omega), Below.heap_setCell _ _ _ _ (by show b ≠ w.heap.size + 1; omega)])
        exact (show Ty.mk t.kind t.args = t by cases t; rfl) ▸ this
def MkOut (w w' : World) (e : Ending) (t : Ty) : Option Nat → Prop
 | none => e = .returned (.tuple #[.agg #[.int .i64 0, .slice none 0 0], .int .i64 20])
 | some _ => ∃ v, e = .returned (.tuple #[v, .int .i64 0]) ∧ TyAt w' (fun b => w.heap.size ≤ b) 6 v t
set_option maxRecDepth 100000 in
set_option maxHeartbeats 1000000 in
theorem make_any (d : Nat) (S : Nat → Prop) (k : Int) (A : Option Addr) (c : Nat) (l : List Ty) (w : World) (hA : yE w S d A l) (hc : l.length ≤ c) (hG : Glob w) :
    Calls Tryz.prog 34 #[.int .i64 k, .slice A l.length c] w fun e w' => MkOut w w' e (.mk k l) (zH 6 (.mk k l)) ∧ Below w.heap.size w w' := by
 have hGl := hG.lt
 have hT : TyAt w S (d + 1) (.agg #[.int .i64 k, .slice A l.length c]) (.mk k l) := ⟨A, c, rfl, hc, hA⟩
 have HT := Lib.hid hT
 have hb2 := ((Below.refl w.heap.size w).alloc (Nat.le_refl _) (.cells #[.int .i64 0, .slice none 0 0] 34)).alloc (by simp) (.cells #[.int .i64 k, .slice A l.length c] 34)
 have hx0 := (Below.heap_alloc (w.alloc (.cells #[.int .i64 0, .slice none 0 0] 34)) (.cells #[.int .i64 k, .slice A l.length c] 34) w.heap.size (by simp)).trans (heap_alloc_new w _)
 have hx1 : ((w.alloc (.cells #[.int .i64 0, .slice none 0 0] 34)).alloc (.cells #[.int .i64 k, .slice A l.length c] 34)).heap[w.heap.size + 1]? = some (.cells #[.int .i64 k, .slice A l.length c] 34 (0, 0)) := by simpa using heap_alloc_new (w.alloc (.cells #[.int .i64 0, .slice none 0 0] 34)) (.cells #[.int .i64 k, .slice A l.length c] 34)
 clear hT
 go_enter Tryz.func34, Tryz.ntmps34
 go_wp2_with (fail)
 refine (check_any (d + 1) _ _ (.mk k l) _ (HT.out.below hb2) (hG.kept (hb2.block 0 hGl))).mono ?_
 rintro e w1 ⟨he, hb1⟩
 have hb3 := hb2.trans (hb1.mono (by simp; omega))
 have hs1 := hb1.size
 simp only [World.size_alloc] at hs1
 have hy1 := (hb1.block (w.heap.size + 1) (by simp)).trans hx1
 have hy0 := (hb1.block w.heap.size (by simp; omega)).trans hx0
 have c0 := zG hy0
 have c1 := zF hy0
 have f0 := zB hy0 0
 have f1 := zB hy0 1
 have d0 := zG hy1
 have d1 := zF hy1
 have hl1 := zC hy1
 clear hx0 hx1
 cases hm : zH 6 (.mk k l) with
 | none =>
   rw [hm] at he
   obtain rfl : e = .returned (.int .i64 20) := he
   have HM := Lib.hid hm
   clear hm
   go_wp2_with (fail)
   refine bodyPost_ret (v := .tuple #[.agg #[.int .i64 0, .slice none 0 0], .int .i64 20]) (by simp [results, Tryz.results34, go_sem, c0, c1]) rfl ?_
   rw [HM.out]
   exact ⟨rfl, (hb3.setCell (p := ⟨w.heap.size, 0, none⟩) (Nat.le_refl _) _).setCell (p := ⟨w.heap.size, 1, none⟩) (Nat.le_refl _) _⟩
 | some q =>
   rw [hm] at he
   obtain rfl : e = .returned (.int .i64 0) := he
   have HM := Lib.hid hm
   clear hm
   go_wp2_with (fail)
   refine (fresh_any 6 (d + 1) S _ (.mk k l) q _ HM.out ((HT.out.below hb2).below hb1)).mono ?_
   rintro e w2 ⟨⟨v2, rfl, hT2⟩, hb4⟩
   obtain ⟨A2, c2, rfl⟩ := hT2.form
   have HT2 := Lib.hid hT2
   have hy2 := (hb4.block w.heap.size (by omega)).trans hy0
   clear c0 c1 f0 f1 hT2
   have c0 := zG hy2
   have c1 := zF hy2
   have f0 := zB hy2 0
   have f1 := zB hy2 1
   go_wp2_with (fail)
   refine bodyPost_ret (v := .tuple #[.agg #[.int .i64 (Ty.mk k l).kind, .slice A2 (Ty.mk k l).args.length c2], .int .i64 0]) (by simp [results, Tryz.results34, go_sem, c0, c1]) rfl ?_
   rw [HM.out]
   refine ⟨⟨_, rfl, HT2.out.move fun b hb _ => ⟨by omega, fun _ => World.cell?_of_block (by rw [Below.heap_setCell _ _ _ _ (by show b ≠ w.heap.size; omega), Below.heap_setCell _ _ _ _ (by show b ≠ w.heap.size; omega)])⟩⟩, ?_⟩
   exact ((hb3.trans (hb4.mono (by omega))).setCell (p := ⟨w.heap.size, 0, none⟩) (Nat.le_refl _) _).setCell (p := ⟨w.heap.size, 1, none⟩) (Nat.le_refl _) _
