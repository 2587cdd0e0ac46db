/-
Stage 11: slices of ints: Grow, Concat. Stage 11: who reads from what.
-/
import Derived.Test.YtllnamhgnbdkmaaGreatDoorJa
import Derived.Shelf.Spec.SlicesGrow
import Derived.Laws.AppendOwnNone
import Derived.Lib.OwnBridge
import Derived.Sort.OwnSorted
import Derived.Sort.Grow
import Derived.Test.YtllnamhgnbdkmaaGreatDoorJf
import Derived.Sort.OwnSortedInts
set_option linter.unusedVariables false
set_option linter.unusedSimpArgs false
namespace Go.Proofs.YtllnamhgnbdkmaaGreatDoor
open Go.RowKit Go.Shelf Go.Sort
def encZ (x : Int) : Value := .int .i64 x
theorem addr_add (b o j : Nat) : (⟨b, o, none⟩ : Addr).add j = ⟨b, o + j, none⟩ := by unfold Addr.add; split <;> simp_all
theorem info3 : (Tryz.prog.info? 3).map (fun i => (i.zero, i.size, i.bytes)) = some (some (.int .i64 0), 1, 8) := by kernel_rfl
theorem grow_any (n : Nat) (w : World) (hn : n ≤ 1000000000) :
    Calls Tryz.prog 112 #[.slice none 0 0, .int .i64 (n : Int)] w fun e w' => ∃ v, e = .returned v ∧ w'.ownsRow w.heap.size 3 1 v 0 [] ∧ Below w.heap.size w w' := by
  by_cases h0 : n = 0
  · subst h0
    exact (Any8.slices_Grow_room Tryz.laysGrow none 0 0 0 w (by omega) (by omega) (by omega) (by omega)).mono fun e w' ⟨he, hw⟩ => ⟨_, he, World.ownsRow_nil _ _ _ _, hw ▸ Below.refl _ _⟩
  · obtain ⟨i0, hi, hq0, hq1, hq2⟩ := info_parts info3
    have hg := Any8.slices_Grow_grow Tryz.laysGrow i0 _ (show Tryz.prog.info? 3 = some i0 from hi) hq0 (by omega) none 0 0 n [] w (by omega) (by omega) (by rw [hq2]; omega) (by omega) (by simp) (fun _ => rfl) (fun a ha => by cases ha)
    rw [show Tryz.laysGrow_ren.t 25 = 3 from rfl] at hg
    refine hg.mono fun e w' ⟨he, hw⟩ => ⟨_, he, ?_, ?_⟩
    · subst hw
      refine ⟨rfl, .inr ⟨w.heap.size, grownCap w (0 + n) 0 3, _, rfl, Nat.le_refl _, heap_new_at (by simp), Nat.zero_le _, grownCap_le_maxLen w _ 0 3 (by unfold maxLen; omega), ?_, by simp⟩⟩
      have := grownCap_ge w n 0 3
      simp [Builtin.zeroCells, Value.cells]
      omega
    · subst hw
      exact ((Below.refl _ w).drew).alloc (Nat.le_refl _) _
theorem wpList_append_strs {ops : Array Oper} {rest : List Oper} {o : Oper} {a : Act} {w : World} {Q : Exit → Act → World → Prop} (hgd : o.guard = none) (s x : Operand)
    (ho : o.op = .call { callee := .builtin .append, args := #[s, x], argTypes := #[41, 41] })
    (base : Nat) (v : Value) (l l2 : List Int) (hs : a.eval s = v) (hown : w.ownsRow base 3 1 v l.length (l.map encZ)) (S : Nat → Prop) (vx : Value) (hx : a.eval x = vx) (hst : IntsAt w S vx l2)
    (hlen : l.length + l2.length ≤ 1000000000) (hbase : base ≤ w.heap.size)
    (h : ∀ v' w', w'.ownsRow base 3 1 v' (l ++ l2).length ((l ++ l2).map encZ) → w.grownBy w' v.ownBlock → (v'.ownBlock = v.ownBlock ∨ v'.ownBlock = some w.heap.size) → wpList Tryz.prog ops Q rest (a.put o.dst v') w') :
    wpList Tryz.prog ops Q (o :: rest) a w := by
  obtain ⟨i0, hi, hq0, hq1, hq2⟩ := info_parts info3
  obtain ⟨A, c, rfl, hc, hnil, hj⟩ := hst
  rcases A with _ | ad
  · obtain rfl := hnil rfl
    obtain rfl : l2 = [] := List.eq_nil_of_length_eq_zero (by omega)
    refine wpList_append_own_none hgd s x 41 ho base 3 i0 1 Tryz.underlying41 hi v l.length (l.map encZ) hs hown hx ?_
    refine h v w (by simpa using hown) ⟨rfl, rfl, rfl, Nat.le_refl _, fun _ _ _ => rfl⟩ (.inl rfl)
  · refine wpList_append_own_at w hgd s x 41 ho base 3 i0 (.int .i64 0) 1 8 Tryz.underlying41 hi hq0 hq1 hq2 rfl (by decide) v l.length (l.map encZ) hs hown ad l2.length c (l2.map encZ) hx (by simp) (fun j u hu => ?_) (fun u hu => ?_) (by unfold maxLen; omega) (by omega) hbase (fun v' w' h1 h2 _ h4 => ?_)
    · rw [List.getElem?_map] at hu
      cases hl : l2[j]? with
      | none => rw [hl] at hu; cases hu
      | some y =>
        rw [hl] at hu
        have hu' : encZ y = u := Option.some.inj hu
        rw [← hu']
        obtain ⟨b, o', e, _, _, hk⟩ := hj (by have := (List.getElem?_eq_some_iff.1 hl).1; omega)
        obtain rfl := Option.some.inj e
        have hjy := hk j y hl
        rw [addr_add]
        rw [hjy, encZ]
    · obtain ⟨y, _, rfl⟩ := List.mem_map.1 hu
      rfl
    · exact h v' w' (by rw [List.length_append, List.map_append]; exact h1) h2 h4
def catJ (a b : List Int) : Nat → List Int
  | 0 => []
  | 1 => a
  | _ => a ++ b
def szJ (a b : Nat) : Nat → Nat
  | 0 => 0
  | 1 => a
  | _ => a + b
set_option maxRecDepth 100000 in
set_option maxHeartbeats 1000000 in
theorem concat_any (S : Nat → Prop) (g : Nat) (v1 v2 : Value) (l1 l2 : List Int) (w : World) (h1 : IntsAt w S v1 l1) (h2 : IntsAt w S v2 l2) (hg : w.heap[g]? = some (.cells #[v1, v2] 41 (0, 0))) (hl : l1.length + l2.length ≤ 1000000) :
    Calls Tryz.prog 84 #[.slice (some ⟨g, 0, none⟩) 2 2] w fun e w' => (∃ v', e = .returned v' ∧ IntsAt w' (fun b => w.heap.size ≤ b) v' (l1 ++ l2)) ∧ Below w.heap.size w w' := by
  have c0 := cell2_0 hg
  have c1 := cell2_1 hg
  have hgl := cell_lt hg
  obtain ⟨A1, k1, rfl⟩ := h1.form
  obtain ⟨A2, k2, rfl⟩ := h2.form
  have H1 := Lib.hid h1
  have H2 := Lib.hid h2
  clear h1 h2
  go_enter Tryz.func84, Tryz.ntmps84
  go_wp2_with (fail)
  go_loopw [3, 11] (fun sz iv wr => ∃ j : Nat, iv = .int .i64 (j : Int) ∧ j ≤ 2 ∧ sz = .int .i64 ((szJ l1.length l2.length j : Nat) : Int) ∧ wr = w) (fun _ iv _ => 2 - (intOf iv).toNat)
  case atStart => exact ⟨0, rfl, by omega, rfl, rfl⟩
  case round =>
    obtain ⟨j, rfl, hj, rfl, hw⟩ := hrel
    have hw' := hw.symm
    subst hw'
    rcases (show j = 0 ∨ j = 1 ∨ j = 2 by omega) with rfl | rfl | rfl
    · have e0 : szJ l1.length l2.length 0 = 0 := rfl
      rw [e0]
      go_wp2_with (fail)
      go_roundw
      case rel => exact ⟨1, by go_num, by omega, by go_num, trivial⟩
      case measure => simp [intOf]
    · have e0 : szJ l1.length l2.length 1 = l1.length := rfl
      rw [e0]
      go_wp2_with (fail)
      go_roundw
      case rel => exact ⟨2, by go_num, by omega, by go_num, trivial⟩
      case measure => simp [intOf]
    · have e0 : szJ l1.length l2.length 2 = l1.length + l2.length := rfl
      obtain ⟨n, hn⟩ : ∃ n, n = l1.length + l2.length := ⟨_, rfl⟩
      have HN := Lib.hid hn
      rw [e0, ← hn]
      have hn1 : n ≤ 1000000 := by omega
      clear hn e0
      go_wp2_with (fail)
      refine (grow_any n w (by omega)).mono ?_
      rintro e w2 ⟨v2, rfl, ho2, hb2⟩
      have HO2 := Lib.hid ho2
      have HB2 := Lib.hid hb2
      clear ho2 hb2
      go_wp2_with (fail)
      go_loopw [6, 27] (fun ns iv wq => ∃ j : Nat, iv = .int .i64 (j : Int) ∧ j ≤ 2 ∧ wq.ownsRow w.heap.size 3 1 ns (catJ l1 l2 j).length ((catJ l1 l2 j).map encZ) ∧ Hid (Below w.heap.size w wq)) (fun _ iv _ => 2 - (intOf iv).toNat)
      case atStart => exact ⟨0, rfl, by omega, HO2.out, HB2⟩
      case round =>
        obtain ⟨j, rfl, hj, ho, HB⟩ := hrel
        have HOW := Lib.hid ho
        have hsz := HB.out.size
        clear ho
        have k0 := (HB.out.cell (p := ⟨g, 0, none⟩) hgl).trans c0
        have k1 := (HB.out.cell (p := ⟨g, 1, none⟩) hgl).trans c1
        rcases (show j = 0 ∨ j = 1 ∨ j = 2 by omega) with rfl | rfl | rfl
        · go_wp2_with (at_builtin; refine wpList_append_strs rfl _ _ rfl w.heap.size _ (catJ l1 l2 0) l1 rfl HOW.out S _ rfl (H1.out.below HB.out) (by simp [catJ]; omega) hsz ?_; intro v7 w7 hown7 hgrow7 hat7)
          go_roundw
          case rel => exact ⟨1, by go_num, by omega, hown7, HB.out.grown hgrow7 hsz (fun k hk => (HOW.out.lt k hk).1)⟩
          case measure => simp [intOf]
        · go_wp2_with (at_builtin; refine wpList_append_strs rfl _ _ rfl w.heap.size _ (catJ l1 l2 1) l2 rfl HOW.out S _ rfl (H2.out.below HB.out) (by simp [catJ]; omega) hsz ?_; intro v7 w7 hown7 hgrow7 hat7)
          go_roundw
          case rel => exact ⟨2, by go_num, by omega, hown7, HB.out.grown hgrow7 hsz (fun k hk => (HOW.out.lt k hk).1)⟩
          case measure => simp [intOf]
        · go_wp2_with (fail)
          go_ret
          exact ⟨⟨_, rfl, IntsAt.of_own HOW.out⟩, HB.out⟩
end Go.Proofs.YtllnamhgnbdkmaaGreatDoor
namespace Go.Proofs.YtllnamhgnbdkmaaGreatDoor
open Go.RowKit Go.Shelf Go.Sort
def readsN (n : Gn) : List Int := n.ins ++ n.side
set_option maxRecDepth 100000 in
theorem reads_any (w : World) (S : Nat → Prop) (d : Nat) (n : Gn) (IA SA A : Option Addr) (ic sc c : Nat) (hN : GnAt w S d (n.val IA SA A ic sc c) n) (hl : n.ins.length + n.side.length ≤ 1000000) :
    Calls Tryz.prog 56 #[.agg #[.int .i64 n.op, .slice IA n.ins.length ic, .slice SA n.side.length sc, .string ⟨n.text.toArray⟩, .int .i64 n.ty.kind, .slice A n.ty.args.length c, .int .i64 n.f0, .int .i64 n.f1, .int .i64 n.f2, .int .i64 n.f3, .int .i64 n.e, .int .i64 n.l, .int .i64 n.lt, .bool n.acc]] w fun e w' => (∃ v', e = .returned v' ∧ IntsAt w' (fun b => w.heap.size ≤ b) v' (readsN n)) ∧ Below w.heap.size w w' := by
  obtain ⟨IA', SA', A', ic', sc', c', e, h1, h2, h3⟩ := hN
  unfold Gn.val at e
  injection e with e
  simp only [Array.mk.injEq, List.cons.injEq, Value.slice.injEq, and_true, true_and] at e
  obtain ⟨⟨rfl, rfl⟩, ⟨rfl, rfl⟩, rfl, rfl⟩ := e
  obtain ⟨W0, hW0⟩ : ∃ W0, w.alloc (.cells #[.int .i64 n.op, .slice IA n.ins.length ic, .slice SA n.side.length sc, .string ⟨n.text.toArray⟩, .int .i64 n.ty.kind, .slice A n.ty.args.length c, .int .i64 n.f0, .int .i64 n.f1, .int .i64 n.f2, .int .i64 n.f3, .int .i64 n.e, .int .i64 n.l, .int .i64 n.lt, .bool n.acc] 83) = W0 := ⟨_, rfl⟩
  have hx : W0.heap[w.heap.size]? = some (.cells #[.int .i64 n.op, .slice IA n.ins.length ic, .slice SA n.side.length sc, .string ⟨n.text.toArray⟩, .int .i64 n.ty.kind, .slice A n.ty.args.length c, .int .i64 n.f0, .int .i64 n.f1, .int .i64 n.f2, .int .i64 n.f3, .int .i64 n.e, .int .i64 n.l, .int .i64 n.lt, .bool n.acc] 83 (0, 0)) := by rw [← hW0]; exact heap_alloc_new w _
  have hB0 : Below w.heap.size w W0 := by rw [← hW0]; exact bl_al (Below.refl _ _) _
  have hs0 : W0.heap.size = w.heap.size + 1 := by rw [← hW0]; simp
  have h1' : IntsAt (W0.alloc (.cells #[.slice IA n.ins.length ic, .slice SA n.side.length sc] 41)) S (.slice IA n.ins.length ic) n.ins := h1.below (bl_al hB0 _)
  have h2' : IntsAt (W0.alloc (.cells #[.slice IA n.ins.length ic, .slice SA n.side.length sc] 41)) S (.slice SA n.side.length sc) n.side := h2.below (bl_al hB0 _)
  have HC := Lib.hid (concat_any S W0.heap.size _ _ n.ins n.side _ h1' h2' (heap_alloc_new W0 _) hl)
  have HW0 := Lib.hid hW0
  have HB0 := Lib.hid (bl_al hB0 (.cells #[.slice IA n.ins.length ic, .slice SA n.side.length sc] 41))
  have c1 := cellN (i := 1) hx rfl
  have c2 := cellN (i := 2) hx rfl
  have cl := cell_lt hx
  clear h1 h2 h3 h1' h2' hW0 hB0 hx hs0
  go_enter Tryz.func56, Tryz.ntmps56
  go_upto_region 1 with (fail)
  rw [HW0.out]
  clear HW0
  go_wp2_with (fail)
  refine HC.out.mono ?_
  rintro e w2 ⟨⟨v', rfl, h⟩, hb⟩
  have HB2 := Lib.hid (bl_tr HB0.out hb)
  have H := Lib.hid (h.move fun b hb1 hl => ⟨Nat.le_trans (by have := HB0.out.size; exact this) hb1, hl, fun _ => rfl⟩ : IntsAt w2 (fun b => w.heap.size ≤ b) v' (n.ins ++ n.side))
  clear h hb
  go_wp2_with (fail)
  go_ret
  exact ⟨⟨v', rfl, H.out⟩, HB2.out⟩
theorem contains_any (S : Nat → Prop) (v : Value) (l : List Int) (x : Int) (w : World) (h : IntsAt w S v l) (hl : l.length ≤ 1000000000) :
    Calls Tryz.prog 55 #[v, .int .i64 x] w fun e w' => e = .returned (.bool (decide (x ∈ l))) ∧ w' = w := by
  obtain ⟨A, c, rfl, hc, hn, h⟩ := h
  by_cases h0 : l.length = 0
  · obtain rfl : l = [] := List.eq_nil_of_length_eq_zero h0
    exact (Tryz.slices_Contains_int_empty A c x w).mono fun e w' ⟨he, hw⟩ => ⟨by rw [he]; simp, hw⟩
  · obtain ⟨b, o, rfl, _, _, hj⟩ := h (by omega)
    refine (Tryz.slices_Contains_int b o l.length c l x w (Nat.le_refl _) (by omega) fun j hj' => by rw [hj j _ (List.getElem?_eq_getElem hj')]; simp [List.getD_eq_getElem?_getD, List.getElem?_eq_getElem hj']).mono fun e w' ⟨he, hw⟩ => ⟨?_, hw⟩
    rw [he, List.take_of_length_le (Nat.le_refl _)]
    simp [List.contains_iff_mem]
end Go.Proofs.YtllnamhgnbdkmaaGreatDoor
