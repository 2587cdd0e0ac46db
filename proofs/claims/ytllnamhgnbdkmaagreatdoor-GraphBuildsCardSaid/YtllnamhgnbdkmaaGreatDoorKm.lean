/-
Same of package kind: alike, slices.EqualFunc. fresh and Make of package kind.
-/
import Derived.Test.YtllnamhgnbdkmaaGreatDoorKd
import Derived.Laws.MakeOwn
namespace Go.Proofs.YtllnamhgnbdkmaaGreatDoor.Knd
open Go.RowKit
def ArgsAt (w : World) (S : Nat → Prop) (d : Nat) (A : Option Addr) (l : List Ty) : Prop :=
  0 < l.length → ∃ b o, A = some ⟨b, o, none⟩ ∧ S b ∧ ∀ (j : Nat) (a : Ty), l[j]? = some a → ∃ u0 u1, w.cell? ⟨b, o + j * 2, none⟩ = some u0 ∧ w.cell? ⟨b, o + j * 2 + 1, none⟩ = some u1 ∧ TyAt w S d (.agg #[u0, u1]) a
end Go.Proofs.YtllnamhgnbdkmaaGreatDoor.Knd
namespace Go.Proofs.YtllnamhgnbdkmaaGreatDoor.Knd
open Go.RowKit
structure FrInv (w : World) (A : Option Addr) (c : Nat) (t : Ty) (r G j : Nat) (cs : List Value) (wr : World) : Prop where
  below : Below w.heap.size w wr
  size : G < wr.heap.size
  box : wr.heap[w.heap.size]? = some (.cells #[.int .i64 t.kind, .slice A t.args.length c] 64 (0, 0))
  res : wr.heap[w.heap.size + 1]? = some (.cells #[.int .i64 0, .slice none 0 0] 64 (0, 0))
  own : wr.ownsRow G 64 2 (.slice (some ⟨G, 0, none⟩) t.args.length t.args.length) t.args.length cs
  args : ∀ (i : Nat) (a : Ty), i < j → t.args[i]? = some a → ∃ u0 u1, cs[i * 2]? = some u0 ∧ cs[i * 2 + 1]? = some u1 ∧ TyAt wr (fun b => G ≤ b ∧ b ≠ G) r (.agg #[u0, u1]) a
theorem frInv_start (w : World) (A : Option Addr) (c : Nat) (t : Ty) (r : Nat) (RW : Array Value) (h : RW.size = t.args.length * 2) (hl : t.args.length ≤ 2) :
    FrInv w A c t r (w.heap.size + 2) 0 RW.toList (((w.alloc (.cells #[.int .i64 t.kind, .slice A t.args.length c] 64)).alloc (.cells #[.int .i64 0, .slice none 0 0] 64)).alloc (.cells RW 64)) := by
  have e : ((w.alloc (.cells #[.int .i64 t.kind, .slice A t.args.length c] 64)).alloc (.cells #[.int .i64 0, .slice none 0 0] 64)).heap.size = w.heap.size + 2 := by simp
  refine ⟨(((Below.refl _ _).alloc (Nat.le_refl _) _).alloc (by simp) _).alloc (by simp; omega) _, by simp, ?_, ?_, ?_, fun i a hi => by omega⟩
  · rw [Below.heap_alloc _ _ _ (by simp; omega), Below.heap_alloc _ _ _ (by simp)]; exact heap_alloc_new w _
  · rw [Below.heap_alloc _ _ _ (by simp)]; exact (by simpa using heap_alloc_new (w.alloc _) _)
  · have := World.ownsRow_lit (base := w.heap.size + 2) (e := 64) (size := 2) ((w.alloc (.cells #[.int .i64 t.kind, .slice A t.args.length c] 64)).alloc (.cells #[.int .i64 0, .slice none 0 0] 64)) RW t.args.length (by simp) (by unfold maxLen; omega) h
    rwa [e] at this
theorem frInv_row {w wr w3 : World} {A : Option Addr} {c : Nat} {t : Ty} {r G j : Nat} {cs : List Value} (h : FrInv w A c t r G j cs wr) (hb : Below wr.heap.size wr w3) (hj : j < t.args.length) :
    (∃ u, w3.cell? ⟨G, j * 2, none⟩ = some u) ∧ (∃ u, w3.cell? ⟨G, j * 2 + 1, none⟩ = some u) ∧ w3.frozen? ⟨G, j * 2, none⟩ = false ∧ w3.frozen? ⟨G, j * 2 + 1, none⟩ = false := by
  have hl : cs.length = t.args.length * 2 := h.own.1
  have hc := fun (i : Nat) (hi : i < t.args.length * 2) => h.own.cellAt i hi
  refine ⟨⟨cs[j * 2]'(by omega), ?_⟩, ⟨cs[j * 2 + 1]'(by omega), ?_⟩, ?_, ?_⟩
  · rw [hb.cell (p := ⟨G, j * 2, none⟩) h.size, hc _ (by omega)]; exact List.getElem?_eq_getElem _
  · rw [hb.cell (p := ⟨G, j * 2 + 1, none⟩) h.size, hc _ (by omega)]; exact List.getElem?_eq_getElem _
  · rw [hb.frozen (p := ⟨G, j * 2, none⟩) h.size]; exact h.own.frozenAt _
  · rw [hb.frozen (p := ⟨G, j * 2 + 1, none⟩) h.size]; exact h.own.frozenAt _
theorem frInv_next {w wr w2 w3 : World} {A : Option Addr} {c : Nat} {t a : Ty} {r G j : Nat} {cs : List Value} {u0 u1 : Value} (h : FrInv w A c t r G j cs wr) (hb : Below wr.heap.size wr w3) (h2 : wr.heap.size ≤ w2.heap.size) (hj : j < t.args.length) (ha : t.args[j]? = some a) (hT : TyAt w3 (fun b => w2.heap.size ≤ b) r (.agg #[u0, u1]) a)
    (hG : w.heap.size + 2 ≤ G := by omega) :
    FrInv w A c t r G (j + 1) ((cs.set (j * 2) u0).set (j * 2 + 1) u1) ((w3.setCell ⟨G, j * 2, none⟩ u0).setCell ⟨G, j * 2 + 1, none⟩ u1) := by
  have hsz := h.size
  have hcl : cs.length = t.args.length * 2 := h.own.1
  have hws : w.heap.size ≤ wr.heap.size := h.below.size
  have hown3 : w3.ownsRow G 64 2 (.slice (some ⟨G, 0, none⟩) t.args.length t.args.length) t.args.length cs := h.own.kept (row := none) ⟨hb.os, hb.tape, hb.output, hb.size, fun k hk _ => hb.block k hk⟩ (.inr (by simp [Value.ownBlock]))
  have s1 := hown3.stored (j * 2) u0
  have s2 := s1.1.stored (j * 2 + 1) u1
  have far : ∀ b, b ≠ G → ((w3.setCell ⟨G, j * 2, none⟩ u0).setCell ⟨G, j * 2 + 1, none⟩ u1).heap[b]? = w3.heap[b]? := fun b hne => by
    rw [Below.heap_setCell _ _ _ _ (by show b ≠ G; exact hne), Below.heap_setCell _ _ _ _ (by show b ≠ G; exact hne)]
  refine ⟨((h.below.trans (hb.mono hws)).setCell (p := ⟨G, j * 2, none⟩) (by show _ ≤ G; omega) _).setCell (p := ⟨G, j * 2 + 1, none⟩) (by show _ ≤ G; omega) _, ?_, ?_, ?_, s2.1, fun i b hi hib => ?_⟩
  · have := hb.size
    simp only [World.setCell, Array.size_modify]
    omega
  · rw [far _ (by omega), hb.block _ (by omega)]; exact h.box
  · rw [far _ (by omega), hb.block _ (by omega)]; exact h.res
  · rcases Nat.lt_or_ge i j with hlt | hge
    · obtain ⟨x0, x1, e0, e1, e2⟩ := h.args i b hlt hib
      refine ⟨x0, x1, ?_, ?_, (e2.below hb).move fun k hk _ => ⟨hk, fun _ => World.cell?_of_block (far k hk.2)⟩⟩
      · rw [List.getElem?_set_ne (by omega), List.getElem?_set_ne (by omega)]; exact e0
      · rw [List.getElem?_set_ne (by omega), List.getElem?_set_ne (by omega)]; exact e1
    · obtain rfl : i = j := by omega
      rw [ha] at hib
      injection hib with hib
      subst hib
      refine ⟨u0, u1, ?_, ?_, hT.move fun k hk _ => ⟨⟨by omega, by omega⟩, fun _ => World.cell?_of_block (far k (by omega))⟩⟩
      · rw [List.getElem?_set_ne (by omega), List.getElem?_set_self (by omega)]
      · rw [List.getElem?_set_self (by rw [List.length_set]; omega)]
set_option maxRecDepth 100000 in
set_option maxHeartbeats 1000000 in
theorem fresh_any : ∀ (r d : Nat) (S : Nat → Prop) (v : Value) (t : Ty) (q : Nat) (w : World), measureT r t = some q → TyAt w S d v t →
    Calls Tryz.prog 114 #[v] w fun e w' => (∃ v', e = .returned v' ∧ TyAt w' (fun b => w.heap.size ≤ b) r v' t) ∧ Below w.heap.size w w'
  | 0, d, S, v, t, q, w, hm, _ => by simp [measureT] at hm
  | r + 1, 0, S, v, t, q, w, _, hT => hT.elim
  | r + 1, d + 1, S, v, t, q, w, hm, hT => by
    obtain ⟨i0, hi, hq0, hq1, hq2⟩ := info_parts info24
    obtain ⟨x, hx, hxa, hxw, hall⟩ := measure_right hm
    have hx2 := words_args x hxw
    have IH := fun (d : Nat) => fresh_any r d
    have HIH := Lib.hid IH
    have HALL := Lib.hid hall
    have hlen2 : t.args.length ≤ 2 := by omega
    have HT := Lib.hid hT
    obtain ⟨A, c, rfl, hlc, hA⟩ := hT
    have HA := Lib.hid hA
    clear hA IH hall hx hxa hm
    by_cases hz : t.args.length = 0
    · have hze : ((t.args.length : Int) == 0) = true := by simp [hz]
      have HZ := Lib.hid hz
      clear hz
      go_enter Tryz.func114, Tryz.ntmps114
      go_wp2_with (fail)
      refine bodyPost_ret (v := .agg #[.int .i64 t.kind, .slice none 0 0]) (by simp [results, Tryz.results114, go_sem]) rfl ?_
      refine ⟨⟨_, rfl, none, 0, ?_, by have := HZ.out; omega, fun hl => absurd HZ.out (by omega)⟩, ?_⟩
      · rw [HZ.out]
      · exact ((Below.refl w.heap.size w).alloc (Nat.le_refl _) _).alloc (by simp) _
    · have hze : ((t.args.length : Int) == 0) = false := beq_eq_false_iff_ne.2 (by omega)
      have hmk := fun (W : World) => run_make (P := Tryz.prog) W 62 64 i0 _ Tryz.underlying62 hi hq0 .i64 .i64 (t.args.length : Int) (t.args.length : Int) (by omega) (by omega) (by rw [hq2]; omega) (by omega)
      simp only [Int.toNat_natCast, hq1] at hmk
      go_enter Tryz.func114, Tryz.ntmps114
      go_wp2_with (fail)
      generalize hRW : madeCells #[Value.int IntKind.i64 0, Value.slice none 0 0] (t.args.length * 2) = RW
      have hRWs : RW.size = t.args.length * 2 := by rw [← hRW, size_madeCells]
      clear hRW hmk
      go_loopw [20] (fun i wr => ∃ (j : Nat) (cs : List Value), i = .int .i64 j ∧ j ≤ t.args.length ∧ FrInv w A c t r (w.heap.size + 2) j cs wr) (fun i _ => 10 - (intOf i).toNat)
      case atStart => exact ⟨0, _, rfl, by omega, frInv_start w A c t r RW hRWs hlen2⟩
      case round =>
        obtain ⟨j, cs, rfl, hj, hI⟩ := hrel
        have HI := Lib.hid hI
        have b0 := cell2_0 hI.box
        have b1 := cell2_1 hI.box
        have r0 := cell2_0 hI.res
        have r1 := cell2_1 hI.res
        have f0 := cell3_f hI.res 0
        have f1 := cell3_f hI.res 1
        have hbr := hI.below
        have hsz := hI.size
        clear hI
        by_cases hlt : j < t.args.length
        · obtain ⟨b, o, rfl, hSb, hcells⟩ := HA.out (by omega)
          obtain ⟨B1, k1, h0, h1, h2, hbl⟩ := arg_cells hcells hlt
          have g0 := (hbr.cell (p := ⟨b, o + j * 2, none⟩) hbl).trans h0
          have g1 := (hbr.cell (p := ⟨b, o + j * 2 + 1, none⟩) hbl).trans h1
          obtain ⟨q', hq'⟩ := HALL.out _ (List.getElem_mem hlt)
          have hat : t.args[j]? = some t.args[j] := List.getElem?_eq_getElem hlt
          generalize t.args[j] = a at *
          have HAT := Lib.hid hat
          have H2 := Lib.hid (h2.below hbr)
          have HQ := Lib.hid hq'
          clear h0 h1 h2 hat hq' hcells
          go_wp2_with (fail)
          have hba := (Below.refl wr.heap.size wr).alloc (Nat.le_refl _) (.cells #[.int .i64 a.kind, .slice B1 a.args.length k1] 64)
          refine (HIH.out d S _ a q' _ HQ.out (H2.out.below hba)).mono ?_
          rintro e w3 ⟨⟨v3, rfl, hT3⟩, hb3⟩
          obtain ⟨A3, c3, rfl⟩ := hT3.form
          have hrow := frInv_row HI.out (hba.trans (hb3.mono hba.size)) hlt
          obtain ⟨⟨z0, p0⟩, ⟨z1, p1⟩, p2, p3⟩ := hrow
          go_wp2_with (fail)
          go_roundw
          case rel => exact ⟨j + 1, _, by go_num, by omega, frInv_next HI.out (hba.trans (hb3.mono hba.size)) hba.size hlt HAT.out hT3⟩
          case measure => simp [intOf]; omega
        · obtain rfl : j = t.args.length := by omega
          go_wp2_with (fail)
          refine bodyPost_ret (v := .agg #[.int .i64 t.kind, .slice (some ⟨w.heap.size + 2, 0, none⟩) t.args.length t.args.length]) (by simp [results, Tryz.results114, go_sem, r0, r1]) rfl ?_
          have hO := HI.out
          refine ⟨⟨_, rfl, ?_⟩, (hbr.setCell (p := ⟨w.heap.size + 1, 0, none⟩) (by show _ ≤ w.heap.size + 1; omega) _).setCell (p := ⟨w.heap.size + 1, 1, none⟩) (by show _ ≤ w.heap.size + 1; omega) _⟩
          have := ty_made (wF := (wr.setCell ⟨w.heap.size + 1, 0, none⟩ (.int .i64 t.kind)).setCell ⟨w.heap.size + 1, 1, none⟩ (.slice (some ⟨w.heap.size + 2, 0, none⟩) t.args.length t.args.length)) (lo := w.heap.size) (kd := t.kind) (acc := t.args) hO.own rfl (fun i a ha => hO.args i a (List.getElem?_eq_some_iff.1 ha).1 ha) (fun b hb => hb.1) (by omega) (fun b hb hl => by
            rw [Below.heap_setCell _ _ _ _ (by show b ≠ w.heap.size + 1; omega), Below.heap_setCell _ _ _ _ (by show b ≠ w.heap.size + 1; omega)])
          exact (show Ty.mk t.kind t.args = t by cases t; rfl) ▸ this
def MkOut (w w' : World) (e : Ending) (t : Ty) : Option Nat → Prop
  | none => e = .returned (.tuple #[.agg #[.int .i64 0, .slice none 0 0], .int .i64 20])
  | some _ => ∃ v, e = .returned (.tuple #[v, .int .i64 0]) ∧ TyAt w' (fun b => w.heap.size ≤ b) 6 v t
set_option maxRecDepth 100000 in
set_option maxHeartbeats 1000000 in
theorem make_any (d : Nat) (S : Nat → Prop) (k : Int) (A : Option Addr) (c : Nat) (l : List Ty) (w : World) (hA : ArgsAt w S d A l) (hc : l.length ≤ c) (hG : Glob w) :
    Calls Tryz.prog 87 #[.int .i64 k, .slice A l.length c] w fun e w' => MkOut w w' e (.mk k l) (measureT 6 (.mk k l)) ∧ Below w.heap.size w w' := by
  have hGl := hG.lt
  have hT : TyAt w S (d + 1) (.agg #[.int .i64 k, .slice A l.length c]) (.mk k l) := ⟨A, c, rfl, hc, hA⟩
  have HT := Lib.hid hT
  have hb2 := ((Below.refl w.heap.size w).alloc (Nat.le_refl _) (.cells #[.int .i64 0, .slice none 0 0] 64)).alloc (by simp) (.cells #[.int .i64 k, .slice A l.length c] 64)
  have hx0 := (Below.heap_alloc (w.alloc (.cells #[.int .i64 0, .slice none 0 0] 64)) (.cells #[.int .i64 k, .slice A l.length c] 64) w.heap.size (by simp)).trans (heap_alloc_new w _)
  have hx1 : ((w.alloc (.cells #[.int .i64 0, .slice none 0 0] 64)).alloc (.cells #[.int .i64 k, .slice A l.length c] 64)).heap[w.heap.size + 1]? = some (.cells #[.int .i64 k, .slice A l.length c] 64 (0, 0)) := by simpa using heap_alloc_new (w.alloc (.cells #[.int .i64 0, .slice none 0 0] 64)) (.cells #[.int .i64 k, .slice A l.length c] 64)
  clear hT
  go_enter Tryz.func87, Tryz.ntmps87
  go_wp2_with (fail)
  refine (check_any (d + 1) _ _ (.mk k l) _ (HT.out.below hb2) (hG.kept (hb2.block 2 hGl))).mono ?_
  rintro e w1 ⟨he, hb1⟩
  have hb3 := hb2.trans (hb1.mono (by simp; omega))
  have hs1 := hb1.size
  simp only [World.size_alloc] at hs1
  have hy1 := (hb1.block (w.heap.size + 1) (by simp)).trans hx1
  have hy0 := (hb1.block w.heap.size (by simp; omega)).trans hx0
  have c0 := cell2_0 hy0
  have c1 := cell2_1 hy0
  have f0 := cell3_f hy0 0
  have f1 := cell3_f hy0 1
  have d0 := cell2_0 hy1
  have d1 := cell2_1 hy1
  have hl1 := cell_lt hy1
  clear hx0 hx1
  cases hm : measureT 6 (.mk k l) with
  | none =>
    rw [hm] at he
    obtain rfl : e = .returned (.int .i64 20) := he
    have HM := Lib.hid hm
    clear hm
    go_wp2_with (fail)
    refine bodyPost_ret (v := .tuple #[.agg #[.int .i64 0, .slice none 0 0], .int .i64 20]) (by simp [results, Tryz.results87, go_sem, c0, c1]) rfl ?_
    rw [HM.out]
    exact ⟨rfl, (hb3.setCell (p := ⟨w.heap.size, 0, none⟩) (Nat.le_refl _) _).setCell (p := ⟨w.heap.size, 1, none⟩) (Nat.le_refl _) _⟩
  | some q =>
    rw [hm] at he
    obtain rfl : e = .returned (.int .i64 0) := he
    have HM := Lib.hid hm
    clear hm
    go_wp2_with (fail)
    refine (fresh_any 6 (d + 1) S _ (.mk k l) q _ HM.out ((HT.out.below hb2).below hb1)).mono ?_
    rintro e w2 ⟨⟨v2, rfl, hT2⟩, hb4⟩
    obtain ⟨A2, c2, rfl⟩ := hT2.form
    have HT2 := Lib.hid hT2
    have hy2 := (hb4.block w.heap.size (by omega)).trans hy0
    clear c0 c1 f0 f1 hT2
    have c0 := cell2_0 hy2
    have c1 := cell2_1 hy2
    have f0 := cell3_f hy2 0
    have f1 := cell3_f hy2 1
    go_wp2_with (fail)
    refine bodyPost_ret (v := .tuple #[.agg #[.int .i64 (Ty.mk k l).kind, .slice A2 (Ty.mk k l).args.length c2], .int .i64 0]) (by simp [results, Tryz.results87, go_sem, c0, c1]) rfl ?_
    rw [HM.out]
    refine ⟨⟨_, rfl, HT2.out.move fun b hb _ => ⟨by omega, fun _ => World.cell?_of_block (by rw [Below.heap_setCell _ _ _ _ (by show b ≠ w.heap.size; omega), Below.heap_setCell _ _ _ _ (by show b ≠ w.heap.size; omega)])⟩⟩, ?_⟩
    exact ((hb3.trans (hb4.mono (by omega))).setCell (p := ⟨w.heap.size, 0, none⟩) (Nat.le_refl _) _).setCell (p := ⟨w.heap.size, 1, none⟩) (Nat.le_refl _) _
end Go.Proofs.YtllnamhgnbdkmaaGreatDoor.Knd
