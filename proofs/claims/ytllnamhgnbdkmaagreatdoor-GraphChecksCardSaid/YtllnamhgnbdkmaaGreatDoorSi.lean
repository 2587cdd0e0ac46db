/-
Stage 11: the document's has and Reads. Stage 11: the document's Above. Stage 11: what GraphChecks gathers: plain.
-/
import Derived.Test.YtllnamhgnbdkmaaGreatDoorJh
import Derived.Test.YtllnamhgnbdkmaaGreatDoorRb
import Derived.Test.YtllnamhgnbdkmaaGreatDoorYu
set_option linter.unusedVariables false
set_option linter.unusedSimpArgs false
namespace Go.Proofs.YtllnamhgnbdkmaaGreatDoor
open Go.RowKit

set_option maxRecDepth 100000 in
set_option maxHeartbeats 1000000 in
theorem rhas_any (w : World) (S : Nat → Prop) (iv : Value) (l : List Int) (i : Int) (hI : IntsAt w S iv l) (hl : l.length ≤ 1000000) :
    Calls Tryz.prog 54 #[iv, .int .i64 i] w fun e w' => e = .returned (.bool (decide (i ∈ l))) ∧ w = w' := by
  obtain ⟨A, c, rfl⟩ := hI.form
  have HI := Lib.hid hI
  clear hI
  go_enter Tryz.func54, Tryz.ntmps54
  go_wp2_with (fail)
  go_loopw [5] (fun iv wr => ∃ (j : Nat), iv = .int .i64 (j : Int) ∧ j ≤ l.length ∧ Hid (decide (i ∈ l) = decide (i ∈ l.drop j)) ∧ w = wr) (fun iv _ => l.length - (intOf iv).toNat)
  case atStart => exact ⟨0, rfl, Nat.zero_le _, Lib.hid rfl, rfl⟩
  case round =>
    obtain ⟨j, rfl, hj, HR, rfl⟩ := hrel
    by_cases hlt : j < l.length
    · have hjl : (j : Int) < (l.length : Int) := by omega
      obtain ⟨b, o, rfl, hc, hbl, hS⟩ := HI.out.cell hlt
      have hd : l.drop j = l[j] :: l.drop (j + 1) := List.drop_eq_getElem_cons hlt
      generalize l[j] = x at *
      by_cases hx : x = i
      · have hxb : (x == i) = true := by simp [hx]
        have HE : Hid (decide (i ∈ l) = true) := Lib.hid (by rw [HR.out, hd, hx]; simp)
        clear hd hx
        go_wp2_with (fail)
        go_ret
        rw [HE.out]
        exact ⟨rfl, rfl⟩
      · have hxb : (x == i) = false := by simp [hx]
        have HE : Hid (decide (i ∈ l) = decide (i ∈ l.drop (j + 1))) := Lib.hid (by
          rw [HR.out, hd, Bool.eq_iff_iff]
          simp only [decide_eq_true_eq, List.mem_cons]
          constructor
          · rintro (h | h)
            · exact absurd h.symm hx
            · exact h
          · exact .inr)
        clear hd hx
        go_wp2_with (fail)
        go_roundw
        case rel => exact ⟨j + 1, by go_num, by omega, HE, trivial⟩
        case measure => simp [intOf]; omega
    · obtain rfl : j = l.length := by omega
      have HE : Hid (decide (i ∈ l) = false) := Lib.hid (by rw [HR.out, List.drop_length]; simp)
      have hjl : ¬ ((l.length : Int) < (l.length : Int)) := by omega
      go_wp2_with (fail)
      go_ret
      rw [HE.out]
      exact ⟨rfl, rfl⟩

set_option maxRecDepth 100000 in
set_option maxHeartbeats 1000000 in
theorem rreads_any (w : World) (S : Nat → Prop) (d : Nat) (n : Gn) (i : Int) (IA SA A : Option Addr) (ic sc c : Nat) (hN : GnAt w S d (n.val IA SA A ic sc c) n) (hf : n.ins.length ≤ 1000000 ∧ n.side.length ≤ 1000000) :
    Calls Tryz.prog 20 #[.agg #[.int .i64 n.op, .slice IA n.ins.length ic, .slice SA n.side.length sc, .string ⟨n.text.toArray⟩, .int .i64 n.ty.kind, .slice A n.ty.args.length c, .int .i64 n.f0, .int .i64 n.f1, .int .i64 n.f2, .int .i64 n.f3, .int .i64 n.e, .int .i64 n.l, .int .i64 n.lt, .bool n.acc], .int .i64 i] w fun e w' => e = .returned (.bool (decide (i ∈ readsN n))) ∧ Below w.heap.size w w' := by
  have hgi : IntsAt w S (.slice IA n.ins.length ic) n.ins ∧ IntsAt w S (.slice SA n.side.length sc) n.side := by
    obtain ⟨_, _, _, _, _, _, e, h1, h2, h3⟩ := hN
    unfold Gn.val at e
    injection e with e
    simp only [Array.mk.injEq, List.cons.injEq, Value.slice.injEq, and_true, true_and] at e
    obtain ⟨⟨rfl, rfl⟩, ⟨rfl, rfl⟩, rfl, rfl⟩ := e
    exact ⟨h1, h2⟩
  obtain ⟨W0, hW0⟩ : ∃ W0, w.alloc (.cells #[.int .i64 n.op, .slice IA n.ins.length ic, .slice SA n.side.length sc, .string ⟨n.text.toArray⟩, .int .i64 n.ty.kind, .slice A n.ty.args.length c, .int .i64 n.f0, .int .i64 n.f1, .int .i64 n.f2, .int .i64 n.f3, .int .i64 n.e, .int .i64 n.l, .int .i64 n.lt, .bool n.acc] 51) = W0 := ⟨_, rfl⟩
  have hx : W0.heap[w.heap.size]? = some (.cells #[.int .i64 n.op, .slice IA n.ins.length ic, .slice SA n.side.length sc, .string ⟨n.text.toArray⟩, .int .i64 n.ty.kind, .slice A n.ty.args.length c, .int .i64 n.f0, .int .i64 n.f1, .int .i64 n.f2, .int .i64 n.f3, .int .i64 n.e, .int .i64 n.l, .int .i64 n.lt, .bool n.acc] 51 (0, 0)) := by rw [← hW0]; exact heap_alloc_new w _
  have hB0 : Below w.heap.size w W0 := by rw [← hW0]; exact bl_al (Below.refl _ _) _
  obtain ⟨q1, hq1⟩ : ∃ q, decide (i ∈ n.ins) = q := ⟨_, rfl⟩
  obtain ⟨q2, hq2⟩ : ∃ q, decide (i ∈ n.side) = q := ⟨_, rfl⟩
  have H1 := Lib.hid (rhas_any W0 S _ n.ins i (hgi.1.below hB0) hf.1)
  have H2 := Lib.hid (rhas_any W0 S _ n.side i (hgi.2.below hB0) hf.2)
  rw [hq1] at H1
  rw [hq2] at H2
  have HF : Hid (decide (i ∈ readsN n) = (q1 || q2)) := Lib.hid (by rw [← hq1, ← hq2, Bool.eq_iff_iff]; simp [readsN])
  have HW0 := Lib.hid hW0
  have HX := Lib.hid hx
  have HB0 := Lib.hid hB0
  clear hW0 hx hB0 hN hgi hf hq1 hq2
  go_enter Tryz.func20, Tryz.ntmps20
  go_upto_region 1 with (fail)
  rw [HW0.out]
  clear HW0
  have c1 := cellN (i := 1) HX.out rfl
  have c2 := cellN (i := 2) HX.out rfl
  have cl := cell_lt HX.out
  cases q1 <;> cases q2 <;> (
    go_wp2_with (first
      | (go_at_call 54; (with_reducible refine H1.out.mono ?_); rintro e w1 ⟨rfl, rfl⟩)
      | (go_at_call 54; (with_reducible refine H2.out.mono ?_); rintro e w1 ⟨rfl, rfl⟩)
      | fail)
    go_ret
    rw [HF.out]
    exact ⟨rfl, HB0.out⟩)

end Go.Proofs.YtllnamhgnbdkmaaGreatDoor
namespace Go.Proofs.YtllnamhgnbdkmaaGreatDoor
open Go.RowKit

/-- A row of so many bools. -/
def bRow (L : Nat) (f : Nat → Bool) : Array Value := ((List.range L).map fun x => Value.bool (f x)).toArray
theorem bRow_get (L : Nat) (f : Nat → Bool) {x : Nat} (h : x < L) : (bRow L f)[x]? = some (.bool (f x)) := by
  unfold bRow
  simp [h]
theorem bRow_put {w : World} {g L : Nat} {f : Nat → Bool} {t : TypeId} {x : Nat} {v : Bool} (h : w.heap[g]? = some (.cells (bRow L f) t (0, 0))) : (w.setCell ⟨g, x, none⟩ (.bool v)).heap[g]? = some (.cells (bRow L fun y => if y = x then v else f y) t (0, 0)) := by
  simp only [World.setCell, Array.getElem?_modify, h]
  simp only [if_true, Option.map_some]
  congr 2
  unfold bRow
  apply Array.ext'
  simp only [Option.isSome_none, Bool.false_eq_true, if_false, Array.toList_setIfInBounds]
  apply List.ext_getElem?
  intro y
  rw [List.getElem?_set]
  by_cases hk : y < L
  · by_cases hkx : x = y
    · subst hkx
      simp [hk]
    · have hkx' : y ≠ x := fun e => hkx e.symm
      simp [hk, hkx, hkx']
  · by_cases hkx : x = y
    · subst hkx
      simp [hk]
    · simp [hk, hkx]
theorem bRow_eq {L : Nat} {f g : Nat → Bool} (h : ∀ x, x < L → f x = g x) : bRow L f = bRow L g := by
  unfold bRow
  congr 1
  exact List.map_congr_left fun x hx => by rw [h x (List.mem_range.1 hx)]
theorem infoB : (Tryz.prog.info? 4).map (fun i => (i.zero, i.size, i.bytes)) = some (some (.bool false), 1, 1) := by kernel_rfl
theorem bRow_made (L : Nat) (w : World) (hL : L ≤ 1000) : (Instr.makeSlice 104 (.int .i64 (L : Int)) (.int .i64 (L : Int))).run Tryz.prog w = .ok (.slice (some ⟨w.heap.size, 0, none⟩) L L) (w.alloc (.cells (bRow L fun _ => false) 4)) := by
  obtain ⟨i0, hi, hq0, hq1, hq2⟩ := info_parts infoB
  have h := run_make (P := Tryz.prog) w 104 4 i0 (.bool false) (by kernel_rfl) hi hq0 .i64 .i64 (L : Int) (L : Int) (by omega) (Int.le_refl _) (by rw [hq2]; omega) (by omega)
  rw [h]
  have e : madeCells (Value.bool false).cells (((L : Int)).toNat * i0.size) = bRow L fun _ => false := by
    rw [hq1]
    unfold madeCells bRow
    apply Array.ext'
    apply List.ext_getElem?
    intro y
    by_cases hy : y < L
    · simp [hy, Value.cells, Nat.mod_one]
    · simp [hy, Value.cells]
  rw [e]
  simp

/-- The marks, when the places from so far on were gone through. -/
def mkR (l : List Gn) (i jn y : Nat) : Bool := decide (y = i) || (decide (jn ≤ y ∧ y < i) && fin l (rdAt l i) y)
/-- Does one of these places, which are marked, read from it? -/
def accR (l : List Gn) (i q m : Nat) : Bool := (List.range m).any fun x => decide (q < x) && ((decide (x = i) || fin l (rdAt l i) x) && decide ((q : Int) ∈ rdAt l x))
theorem accR_start (l : List Gn) (i q : Nat) : accR l i q (q + 1) = false := by
  unfold accR
  rw [List.any_eq_false]
  intro x hx
  have := List.mem_range.1 hx
  simp only [Bool.and_eq_true, decide_eq_true_eq]
  omega
theorem accR_next (l : List Gn) (i q m : Nat) (h : q < m) : accR l i q (m + 1) = (accR l i q m || ((decide (m = i) || fin l (rdAt l i) m) && decide ((q : Int) ∈ rdAt l m))) := by
  unfold accR
  rw [List.range_succ, List.any_append]
  simp [h]
theorem accR_end {l : List Gn} {i q : Nat} (hb : ∀ x, x < l.length → fin l (rdAt l i) x = true → x < i) (hi : i < l.length) (hq : q < i) : accR l i q (i + 1) = fin l (rdAt l i) q := by
  rw [Bool.eq_iff_iff, fin_iff (by omega)]
  unfold accR
  rw [List.any_eq_true]
  simp only [List.mem_range, Bool.and_eq_true, Bool.or_eq_true, decide_eq_true_eq]
  constructor
  · rintro ⟨x, h1, h2, h3, h4⟩
    rcases h3 with rfl | h3
    · exact .inl h4
    · exact .inr ⟨x, h2, by omega, h3, h4⟩
  · rintro (h | ⟨x, h1, h2, h3, h4⟩)
    · exact ⟨i, by omega, hq, .inl rfl, h⟩
    · have := hb x h2 h3
      exact ⟨x, by omega, h1, .inr h3, h4⟩

set_option maxRecDepth 100000 in
set_option maxHeartbeats 4000000 in
theorem rabove_any (w : World) (S : Nat → Prop) (d : Nat) (gv : Value) (l : List Gn) (k i : Nat) (hL : GsAt w S d gv l) (hf : FewG l) (hi : i < l.length) (hk : k < l.length) (hlen : l.length ≤ 32) (hb : ∀ x, x < l.length → fin l (rdAt l i) x = true → x < i) :
    Calls Tryz.prog 21 #[gv, .int .i64 (k : Int), .int .i64 (i : Int)] w fun e w' => e = .returned (.bool (decide (k < i) && fin l (rdAt l i) k)) ∧ Below w.heap.size w w' := by
  obtain ⟨GA, gc, rfl⟩ := hL.form
  have HL := Lib.hid hL
  have HF := Lib.hid hf
  have HBD := Lib.hid hb
  have hi1 : ¬ ((i : Int) < 0) := by omega
  have hi2 : ¬ ((l.length : Int) ≤ (i : Int)) := by omega
  have hi3 : ((i : Int) < (l.length : Int)) := by omega
  have hmk := bRow_made l.length w (by omega)
  obtain ⟨W0, hW0⟩ : ∃ W0, W0 = w.alloc (.cells (bRow l.length fun _ => false) 4) := ⟨_, rfl⟩
  have hrow : W0.heap[w.heap.size]? = some (.cells (bRow l.length fun _ => false) 4 (0, 0)) := by rw [hW0]; exact heap_alloc_new w _
  have hB0 : Below w.heap.size w W0 := by rw [hW0]; exact bl_al (Below.refl _ _) _
  rw [← hW0] at hmk
  have r0 := cellN (i := i) hrow (bRow_get _ _ hi)
  have r1 := frozN (i := i) hrow
  have r2 := cell_lt hrow
  have HROW := Lib.hid hrow
  have HB0 := Lib.hid hB0
  clear hL hf hb hrow hB0 hW0
  go_enter Tryz.func21, Tryz.ntmps21
  go_wp2_with (fail)
  go_loopw [8] (fun jv wr => ∃ jn : Nat, jv = .int .i64 ((jn : Int) - 1) ∧ jn ≤ i ∧ Hid (wr.heap[w.heap.size]? = some (.cells (bRow l.length (mkR l i jn)) 4 (0, 0))) ∧ Hid (Below w.heap.size w wr)) (fun jv _ => (intOf jv + 1).toNat)
  case atStart =>
    refine ⟨i, by go_num, Nat.le_refl _, ?_, Lib.hid (HB0.out.setCell (p := ⟨w.heap.size, i, none⟩) (Nat.le_refl _) _)⟩
    have h1 := bRow_put (x := i) (v := true) HROW.out
    rw [bRow_eq (g := mkR l i i) fun x hx => by unfold mkR; by_cases e : x = i <;> simp [e]; omega] at h1
    exact Lib.hid h1
  case round =>
    obtain ⟨jn, rfl, hj, HRW, HB⟩ := hrel
    clear r0 r1 r2
    cases jn with
    | zero =>
      have hj0 : ¬ ((0 : Int) ≤ ((0 : Nat) : Int) - 1) := by omega
      have hk0 : (0 : Int) ≤ (k : Int) := by omega
      have hkl : (k : Int) < (l.length : Int) := by omega
      have s0 := cellN (i := k) HRW.out (bRow_get _ _ hk)
      have s1 := cell_lt HRW.out
      by_cases hki : k < i
      · have hki' : (k : Int) < (i : Int) := by omega
        obtain ⟨q, hq⟩ : ∃ q, mkR l i 0 k = q := ⟨_, rfl⟩
        have HE : Hid ((decide (k < i) && fin l (rdAt l i) k) = q) := Lib.hid (by rw [← hq]; unfold mkR; have : k ≠ i := by omega
                                                                                  simp [hki, this])
        rw [hq] at s0
        clear hq hki
        go_wp2_with (fail)
        go_ret
        rw [HE.out]
        exact ⟨rfl, HB.out⟩
      · have hki' : ¬ ((k : Int) < (i : Int)) := by omega
        have HE : Hid ((decide (k < i) && fin l (rdAt l i) k) = false) := Lib.hid (by simp [hki])
        clear hki
        go_wp2_with (fail)
        go_ret
        rw [HE.out]
        exact ⟨rfl, HB.out⟩
    | succ q =>
      have hcast : ((q + 1 : Nat) : Int) - 1 = (q : Int) := by omega
      rw [hcast]
      have hq0 : (0 : Int) ≤ (q : Int) := by omega
      have hqi : q < i := by omega
      have hql : (q : Int) < (l.length : Int) := by omega
      go_wp2_with (fail)
      rename World => wo
      go_loopw [9] (fun mv wq => ∃ m : Nat, mv = .int .i64 (m : Int) ∧ q < m ∧ m ≤ i + 1 ∧ Hid (wq.heap[w.heap.size]? = some (.cells (bRow l.length (fun y => if y = q then accR l i q m else mkR l i (q + 1) y)) 4 (0, 0))) ∧ Hid (Below w.heap.size w wq)) (fun mv _ => (i + 1) - (intOf mv).toNat)
      case atStart =>
        refine ⟨q + 1, by go_num, by omega, by omega, ?_, HB⟩
        have h1 := HRW.out
        rw [bRow_eq (g := fun y => if y = q then accR l i q (q + 1) else mkR l i (q + 1) y) fun x hx => by
          by_cases e : x = q
          · subst e
            rw [if_pos rfl, accR_start]
            unfold mkR
            have : x ≠ i := by omega
            have h2 : ¬ (x + 1 ≤ x) := by omega
            simp [this, h2]
          · rw [if_neg e]] at h1
        exact Lib.hid h1
      case round =>
        obtain ⟨m, rfl, hqm, hm, HRQ, HBQ⟩ := hrel
        by_cases hmi : m ≤ i
        · have hmi' : (m : Int) ≤ (i : Int) := by omega
          have hml : m < l.length := by omega
          have hml' : (m : Int) < (l.length : Int) := by omega
          have hm0 : (0 : Int) ≤ (m : Int) := by omega
          obtain ⟨va, hva⟩ : ∃ v, accR l i q m = v := ⟨_, rfl⟩
          obtain ⟨vm, hvm⟩ : ∃ v, (decide (m = i) || fin l (rdAt l i) m) = v := ⟨_, rfl⟩
          have hmk2 : mkR l i (q + 1) m = vm := by
            rw [← hvm]
            unfold mkR
            by_cases e : m = i
            · simp [e]
            · have h1 : q + 1 ≤ m := hqm
              have h2 : m < i := by omega
              simp [e, h1, h2]
          have s0 : wr.cell? ⟨w.heap.size, q, none⟩ = some (.bool va) := (cellN (i := q) HRQ.out (bRow_get _ _ (by omega))).trans (by rw [if_pos rfl, hva])
          have s1 : wr.cell? ⟨w.heap.size, m, none⟩ = some (.bool vm) := (cellN (i := m) HRQ.out (bRow_get _ _ hml)).trans (by rw [if_neg (by omega), hmk2])
          have s2 := frozN (i := q) HRQ.out
          have s3 := cell_lt HRQ.out
          have hat := (HL.out.below HBQ.out).at hml
          have hfn := HF.out _ (List.getElem_mem hml)
          have hrd : rdAt l m = readsN l[m] := by unfold rdAt; rw [List.getElem?_eq_getElem hml]
          generalize l[m] = n at *
          obtain ⟨b, o, rfl, hbl, hS, IA, SA, A, ic, sc, c, hN, a0, a1, a2, a3, a4, a5, a6, a7, a8, a9, a10, a11, a12, a13⟩ := hat
          obtain ⟨rd, hrdv⟩ : ∃ v, decide ((q : Int) ∈ readsN n) = v := ⟨_, rfl⟩
          have HRD : Hid (∀ W, Below wr.heap.size wr W → Calls Tryz.prog 20 #[.agg #[.int .i64 n.op, .slice IA n.ins.length ic, .slice SA n.side.length sc, .string ⟨n.text.toArray⟩, .int .i64 n.ty.kind, .slice A n.ty.args.length c, .int .i64 n.f0, .int .i64 n.f1, .int .i64 n.f2, .int .i64 n.f3, .int .i64 n.e, .int .i64 n.l, .int .i64 n.lt, .bool n.acc], .int .i64 (q : Int)] W fun e w' => e = .returned (.bool rd) ∧ Below W.heap.size W w') := Lib.hid fun W hb => by
            rw [← hrdv]; exact rreads_any W S d n q IA SA A ic sc c (hN.below hb) hfn
          have HNX : Hid (accR l i q (m + 1) = (va || (vm && rd))) := Lib.hid (by rw [accR_next l i q m hqm, hva, hvm, hrd, hrdv])
          have HFIN : Hid (∀ (W : World) (v : Bool), W.heap[w.heap.size]? = some (.cells (bRow l.length (fun y => if y = q then accR l i q m else mkR l i (q + 1) y)) 4 (0, 0)) → v = accR l i q (m + 1) → (W.setCell ⟨w.heap.size, q, none⟩ (.bool v)).heap[w.heap.size]? = some (.cells (bRow l.length (fun y => if y = q then accR l i q (m + 1) else mkR l i (q + 1) y)) 4 (0, 0))) := Lib.hid fun W v hW hv => by
            have h1 := bRow_put (x := q) (v := v) hW
            rw [bRow_eq (g := fun y => if y = q then accR l i q (m + 1) else mkR l i (q + 1) y) fun x hx => by
              by_cases e : x = q
              · simp only [e, if_true]; exact hv
              · simp only [e, if_false]] at h1
            exact h1
          have hbq := HBQ.out.size
          clear hva hvm hmk2 hrd hN hfn hrdv hS
          cases va with
          | true =>
            go_wp2_with (fail)
            go_roundw
            case rel => exact ⟨m + 1, by go_num, by omega, by omega, Lib.hid (HFIN.out _ _ HRQ.out (by rw [HNX.out]; rfl)), Lib.hid (HBQ.out.setCell (p := ⟨w.heap.size, q, none⟩) (Nat.le_refl _) _)⟩
            case measure => simp [intOf]; omega
          | false =>
            cases vm with
            | false =>
              go_wp2_with (fail)
              go_roundw
              case rel => exact ⟨m + 1, by go_num, by omega, by omega, Lib.hid (HFIN.out _ _ HRQ.out (by rw [HNX.out]; rfl)), Lib.hid (HBQ.out.setCell (p := ⟨w.heap.size, q, none⟩) (Nat.le_refl _) _)⟩
              case measure => simp [intOf]; omega
            | true =>
              go_wp2_with (go_at_call 20; (with_reducible refine (HRD.out _ (Below.refl _ _)).mono ?_); rintro e w3 ⟨rfl, hb3⟩; have hx3 := bl_blk hb3 HRQ.out; have t0 := cellN (i := q) hx3 (bRow_get _ _ (by omega)); have t2 := frozN (i := q) hx3; have t3 := cell_lt hx3; have HX3 := Lib.hid hx3; have HB3 := Lib.hid (HBQ.out.trans (hb3.mono hbq)); clear hb3 hx3)
              go_roundw
              case rel => exact ⟨m + 1, by go_num, by omega, by omega, Lib.hid (HFIN.out _ _ HX3.out (by rw [HNX.out]; simp)), Lib.hid (HB3.out.setCell (p := ⟨w.heap.size, q, none⟩) (Nat.le_refl _) _)⟩
              case measure => simp [intOf]; omega
        · have hmi' : ¬ ((m : Int) ≤ (i : Int)) := by omega
          obtain rfl : m = i + 1 := by omega
          have HEND : Hid (wr.heap[w.heap.size]? = some (.cells (bRow l.length (mkR l i q)) 4 (0, 0))) := Lib.hid (by
            have h1 := HRQ.out
            rw [bRow_eq (g := mkR l i q) fun x hx => by
              by_cases e : x = q
              · subst e
                rw [if_pos rfl, accR_end HBD.out hi hqi]
                unfold mkR
                have h1 : x ≠ i := by omega
                simp [h1, hqi]
              · rw [if_neg e]
                unfold mkR
                have : decide (q + 1 ≤ x ∧ x < i) = decide (q ≤ x ∧ x < i) := by rw [Bool.eq_iff_iff]; simp; omega
                rw [this]] at h1
            exact h1)
          go_wp2_with (fail)
          go_roundw
          case rel => exact ⟨q, by go_num, by omega, HEND, HBQ⟩
          case measure => simp [intOf]

end Go.Proofs.YtllnamhgnbdkmaaGreatDoor
namespace Go.Proofs.YtllnamhgnbdkmaaGreatDoor
open Go.RowKit

theorem lead_seg (l : List Gn) (ends : List Int) : ∀ m, m ≤ l.length → (plcs l ends m).reverse = ((List.range' (l.length - m) m).filter (fin l ends)).map fun k : Nat => (k : Int)
  | 0, _ => by simp [plcs]
  | m + 1, hm => by
    have ih := lead_seg l ends m (by omega)
    have hf : marks l ends m (l.length - 1 - m) = fin l ends (l.length - (m + 1)) := by
      unfold fin
      rw [show l.length - 1 - (l.length - (m + 1)) = m by omega, show l.length - 1 - m = l.length - (m + 1) by omega]
    have hr : List.range' (l.length - (m + 1)) (m + 1) = (l.length - (m + 1)) :: List.range' (l.length - m) m := by
      rw [List.range'_succ, show l.length - (m + 1) + 1 = l.length - m by omega]
    rw [hr]
    unfold plcs
    rw [hf]
    by_cases hx : fin l ends (l.length - (m + 1)) = true
    · rw [if_pos hx, List.reverse_append, ih, List.filter_cons_of_pos hx, List.map_cons, show l.length - 1 - m = l.length - (m + 1) by omega]
      rfl
    · rw [if_neg hx, ih, List.filter_cons_of_neg hx]
theorem lead_plF (l : List Gn) (ends : List Int) : leadP l ends = plF (fin l ends) l.length := by
  unfold leadP plF
  rw [lead_seg l ends _ (Nat.le_refl _), Nat.sub_self, List.range_eq_range']
theorem plF_eq {p q : Nat → Bool} {m : Nat} (h : ∀ x, x < m → p x = q x) : plF p m = plF q m := by
  unfold plF
  congr 1
  exact List.filter_congr fun x hx => h x (List.mem_range.1 hx)
theorem plF_next (p : Nat → Bool) (m : Nat) : plF p (m + 1) = if p m = true then plF p m ++ [(m : Int)] else plF p m := by
  unfold plF
  rw [List.range_succ, List.filter_append, List.map_append]
  by_cases h : p m = true
  · rw [if_pos h, List.filter_cons_of_pos h]; rfl
  · rw [if_neg h, List.filter_cons_of_neg h]; simp

/-- What is above, as the document's answer tells it. -/
def abB (l : List Gn) (i : Int) (k : Nat) : Bool := decide (0 ≤ i ∧ i < (l.length : Int)) && (decide (k < i.toNat) && fin l (rdAt l i.toNat) k)
theorem above_plF {l : List Gn} (h : OkG l) (i : Int) : aboveP l i = plF (abB l i) l.length := by
  unfold aboveP
  by_cases hi : 0 ≤ i ∧ i < (l.length : Int)
  · rw [if_pos hi, lead_plF]
    refine plF_eq fun k hk => ?_
    unfold abB
    rw [decide_eq_true hi, Bool.true_and]
    by_cases hf : fin l (rdAt l i.toNat) k = true
    · have := above_lt h i.toNat _ k (Nat.le_refl _) hk hf
      rw [hf]
      simp [this]
    · simp [hf]
  · rw [if_neg hi]
    have e : plF (abB l i) l.length = plF (fun _ => false) l.length := plF_eq fun k hk => by unfold abB; rw [decide_eq_false hi]; rfl
    rw [e]
    simp [plF]
/-- What is live, as the document's answer tells it. -/
def liB (l : List Gn) (k : Nat) : Bool := sinkB l k || (List.range l.length).any fun j => sinkB l j && abB l (j : Int) k
theorem live_fin {l : List Gn} (h : OkG l) : ∀ (m k : Nat), l.length - k ≤ m → k < l.length → (fin l (sinksP l) k = true ↔ (sinkB l k = true ∨ ∃ j, j < l.length ∧ sinkB l j = true ∧ k < j ∧ fin l (rdAt l j) k = true))
  | 0, k, hm, hk => by omega
  | m + 1, k, hm, hk => by
    have ih := live_fin h m
    have hs : ∀ x, x < l.length → ((x : Int) ∈ sinksP l ↔ sinkB l x = true) := fun x hx => by
      unfold sinksP
      rw [mem_plF]
      constructor
      · rintro ⟨_, _, h3⟩
        rwa [Int.toNat_natCast] at h3
      · intro h3
        exact ⟨by omega, by omega, by rwa [Int.toNat_natCast]⟩
    constructor
    · intro hf
      rcases (fin_iff hk).1 hf with h1 | ⟨j, h1, h2, h3, h4⟩
      · exact .inl ((hs k hk).1 h1)
      · refine .inr ?_
        rcases (ih j (by omega) h2).1 h3 with h5 | ⟨j2, h5, h6, h7, h8⟩
        · exact ⟨j, h2, h5, h1, (fin_iff hk).2 (.inl h4)⟩
        · exact ⟨j2, h5, h6, by omega, (fin_iff hk).2 (.inr ⟨j, h1, h2, h8, h4⟩)⟩
    · rintro (h1 | ⟨j, h1, h2, h3, h4⟩)
      · exact (fin_iff hk).2 (.inl ((hs k hk).2 h1))
      · rcases (fin_iff hk).1 h4 with h5 | ⟨x, h5, h6, h7, h8⟩
        · exact (fin_iff hk).2 (.inr ⟨j, h3, h1, (fin_iff h1).2 (.inl ((hs j h1).2 h2)), h5⟩)
        · have hx := above_lt h j _ x (Nat.le_refl _) h6 h7
          exact (fin_iff hk).2 (.inr ⟨x, h5, h6, (ih x (by omega) h6).2 (.inr ⟨j, h1, h2, hx, h7⟩), h8⟩)
theorem live_plF {l : List Gn} (h : OkG l) : leadP l (sinksP l) = plF (liB l) l.length := by
  rw [lead_plF]
  refine plF_eq fun k hk => ?_
  rw [Bool.eq_iff_iff, live_fin h _ k (Nat.le_refl _) hk]
  unfold liB
  rw [Bool.or_eq_true, List.any_eq_true]
  constructor
  · rintro (h1 | ⟨j, h1, h2, h3, h4⟩)
    · exact .inl h1
    · refine .inr ⟨j, List.mem_range.2 h1, ?_⟩
      unfold abB
      simp [h2, h3, h4]
      omega
  · rintro (h1 | ⟨j, h1, h2⟩)
    · exact .inl h1
    · refine .inr ⟨j, List.mem_range.1 h1, ?_⟩
      unfold abB at h2
      simp only [Int.toNat_natCast, Bool.and_eq_true, decide_eq_true_eq] at h2
      exact ⟨h2.1, h2.2.2.1, h2.2.2.2⟩

end Go.Proofs.YtllnamhgnbdkmaaGreatDoor
