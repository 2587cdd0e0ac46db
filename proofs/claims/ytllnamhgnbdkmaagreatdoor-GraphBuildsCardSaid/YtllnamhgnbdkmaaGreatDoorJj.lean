/-
Stage 11: leading: the places that lead.
-/
import Derived.Test.YtllnamhgnbdkmaaGreatDoorJh
set_option linter.unusedVariables false
set_option linter.unusedSimpArgs false
namespace Go.Proofs.YtllnamhgnbdkmaaGreatDoor
open Go.RowKit Go.Shelf Go.Sort
def rdAt (l : List Gn) (i : Nat) : List Int := match l[i]? with
  | some n => readsN n
  | none => []
end Go.Proofs.YtllnamhgnbdkmaaGreatDoor
set_option linter.unusedVariables false
set_option linter.unusedSimpArgs false
namespace Go.Proofs.YtllnamhgnbdkmaaGreatDoor
open Go.RowKit Go.Shelf Go.Sort
theorem gops_few : ∀ o ∈ gops, o.most ≤ 4 ∧ o.side ≤ 4 := by decide
theorem opP_mem {k : Int} {o : Gop} (h : opP k = some o) : o ∈ gops ∧ o.number = k := ⟨List.mem_of_find?_eq_some h, by have := List.find?_some h; simpa using this⟩
theorem readP_ok {ahead : List Gn} : ∀ {l : List Int} {last : Int}, -1 ≤ last → readP ahead l last = true → ∀ x ∈ l, last < x ∧ x.toNat < ahead.length ∧ mayP ahead x = true
  | [], _, _, _, x, hx => by cases hx
  | y :: l, last, h0, h, x, hx => by
    unfold readP at h
    simp only [Bool.and_eq_true, decide_eq_true_eq] at h
    obtain ⟨h1, h2, h3⟩ := h
    rcases List.mem_cons.1 hx with rfl | hx
    · refine ⟨h1, ?_, h2⟩
      unfold mayP at h2
      cases ha : ahead[x.toNat]? with
      | none => rw [ha] at h2; cases h2
      | some n => exact (List.getElem?_eq_some_iff.1 ha).1
    · have := readP_ok (by omega) h3 x hx
      exact ⟨by omega, this.2⟩
structure OkN (l : List Gn) (i : Nat) (n : Gn) : Prop where
  op : ∃ o, opP n.op = some o ∧ (o.least ≤ (n.ins.length : Int) ∧ (n.ins.length : Int) ≤ o.most) ∧ (n.side.length : Int) ≤ o.side
  ins : readP (l.take i) n.ins (-1) = true
  side : readP (l.take i) n.side (-1) = true
  form : formP n = true
theorem chkN_ok {l : List Gn} {i : Nat} {n : Gn} (h : chkN (l.take i) n = 0) : OkN l i n := by
  unfold chkN at h
  cases ho : opP n.op with
  | none => rw [ho] at h; simp at h
  | some o =>
    rw [ho] at h
    simp only at h
    split at h
    · rename_i h1
      split at h
      · rename_i h2
        split at h
        · rename_i h3
          exact ⟨⟨o, ho, of_decide_eq_true h1.1, (of_decide_eq_true h1.2).2⟩, h2.1, h2.2, h3⟩
        · simp at h
      · simp at h
    · simp at h
theorem OkN.few {l : List Gn} {i : Nat} {n : Gn} (h : OkN l i n) : n.ins.length ≤ 4 ∧ n.side.length ≤ 4 := by
  obtain ⟨o, ho, ⟨h1, h2⟩, h3⟩ := h.op
  have := gops_few o (opP_mem ho).1
  omega
theorem OkN.reads {l : List Gn} {i : Nat} {n : Gn} (h : OkN l i n) : ∀ x ∈ readsN n, 0 ≤ x ∧ x.toNat < i ∧ x.toNat < l.length ∧ mayP l x = true := by
  intro x hx
  have aux : ∀ {ps : List Int}, readP (l.take i) ps (-1) = true → x ∈ ps → 0 ≤ x ∧ x.toNat < i ∧ x.toNat < l.length ∧ mayP l x = true := fun {ps} hp hm => by
    obtain ⟨h1, h2, h3⟩ := readP_ok (Int.le_refl _) hp x hm
    rw [List.length_take] at h2
    refine ⟨by omega, by omega, by omega, ?_⟩
    unfold mayP at h3 ⊢
    rw [List.getElem?_take, if_pos (by omega)] at h3
    exact h3
  rcases List.mem_append.1 hx with hx | hx
  · exact aux h.ins hx
  · exact aux h.side hx
structure OkG (l : List Gn) : Prop where
  ne : l.length ≠ 0
  few : l.length ≤ 32
  each : ∀ (i : Nat) (n : Gn), l[i]? = some n → OkN l i n
theorem okG {l : List Gn} (h : (chkAll l).2 = 0) : OkG l ∧ chkAll l = (0, 0) := by
  unfold chkAll at h ⊢
  split at h
  · simp at h
  · rename_i h0
    rw [if_neg h0]
    cases hf : (List.range l.length).find? (fun i => okN l i != 0) with
    | some i =>
      rw [hf] at h
      have := List.find?_some hf
      simp at this
      exact absurd h this
    | none =>
      refine ⟨⟨by omega, by omega, fun i n hn => ?_⟩, rfl⟩
      rw [List.find?_eq_none] at hf
      have := hf i (List.mem_range.2 (List.getElem?_eq_some_iff.1 hn).1)
      simp only [bne_iff_ne, ne_eq, Decidable.not_not] at this
      unfold okN at this
      rw [hn] at this
      exact chkN_ok this
theorem OkG.fewG {l : List Gn} (h : OkG l) : ∀ n ∈ l, n.ins.length + n.side.length ≤ 1000000 := fun n hn => by
  obtain ⟨i, hi⟩ := List.getElem?_of_mem hn
  have := (h.each i n hi).few
  omega
def plF (p : Nat → Bool) (m : Nat) : List Int := ((List.range m).filter p).map (fun k : Nat => (k : Int))
theorem plF_yes {p : Nat → Bool} {m : Nat} (h : p m = true) : plF p (m + 1) = plF p m ++ [(m : Int)] := by
  unfold plF
  rw [List.range_succ, List.filter_append]
  simp [h]
theorem plF_no {p : Nat → Bool} {m : Nat} (h : p m = false) : plF p (m + 1) = plF p m := by
  unfold plF
  rw [List.range_succ, List.filter_append]
  simp [h]
theorem plF_len (p : Nat → Bool) (m : Nat) : (plF p m).length ≤ m := by
  unfold plF
  rw [List.length_map]
  exact Nat.le_trans (List.length_filter_le _ _) (by simp)
def okR (l : List Gn) (r : List Int) : List Int := if (chkAll l).2 = 0 then r else []
def usersP (l : List Gn) (i : Int) : List Int := plF (fun k => decide (i ∈ rdAt l k)) l.length
set_option maxRecDepth 100000 in
set_option maxHeartbeats 8000000 in
theorem users_any (w : World) (S : Nat → Prop) (d : Nat) (gv : Value) (l : List Gn) (i : Int) (hL : GsAt w S d gv l) (hf : FewG l) (hlen : l.length ≤ 1000000) (hG : Gk w) :
    Calls Tryz.prog 23 #[.agg #[gv], .int .i64 i] w fun e w' => (∃ v', e = .returned v' ∧ IntsAt w' (fun b => w.heap.size ≤ b) v' (okR l (usersP l i))) ∧ Below w.heap.size w w' := by
  obtain ⟨i0, hi, hq0, hq1, hq2⟩ := info_parts info3
  obtain ⟨GA, gc, rfl⟩ := hL.form
  obtain ⟨W0, hW0⟩ : ∃ W0, w.alloc (.cells #[.slice GA l.length gc] 27) = W0 := ⟨_, rfl⟩
  have hx : W0.heap[w.heap.size]? = some (.cells #[.slice GA l.length gc] 27 (0, 0)) := by rw [← hW0]; exact heap_alloc_new w _
  have hB0 : Below w.heap.size w W0 := by rw [← hW0]; exact bl_al (Below.refl _ _) _
  have hs0 : W0.heap.size = w.heap.size + 1 := by rw [← hW0]; simp
  have HCK := Lib.hid (checkAll_any W0 S d _ l (hL.below hB0) hf hlen (hG.below hB0))
  have HL := Lib.hid hL
  have HX := Lib.hid hx
  have HB0 := Lib.hid hB0
  have HW0 := Lib.hid hW0
  have HS0 := Lib.hid hs0
  have p0 := cellN (i := 0) hx rfl
  have pl := cell_lt hx
  clear hL hG hx hB0 hW0 hs0
  go_enter Tryz.func23, Tryz.ntmps23
  go_upto_region 1 with (fail)
  rw [HW0.out]
  clear HW0
  go_wp2_with (fail)
  refine HCK.out.mono ?_
  rintro e w1 ⟨rfl, hb1⟩
  have HX1 := Lib.hid (bl_blk hb1 HX.out)
  have HB1 := Lib.hid (HB0.out.trans (hb1.mono HB0.out.size))
  have hs1 := hb1.size
  have hs1' : w.heap.size + 1 ≤ w1.heap.size := by have := HS0.out; omega
  clear hb1 p0 pl hs1 HX HB0
  by_cases hok : (chkAll l).2 = 0
  case neg =>
    have hk1 : ((chkAll l).2 == 0) = false := by simp [hok]
    have hk2 : ((chkAll l).2 != 0) = true := by simp [hok]
    have HR : Hid (okR l (usersP l i) = []) := Lib.hid (if_neg hok)
    clear hok
    go_wp2_with (fail)
    go_ret
    rw [HR.out]
    exact ⟨⟨_, rfl, IntsAt.nil _ _⟩, HB1.out⟩
  have HR : Hid (okR l (usersP l i) = usersP l i) := Lib.hid (if_pos hok)
  obtain ⟨hg, he⟩ := okG hok
  have HOK := Lib.hid hg
  have h32 := hg.few
  rw [he]
  clear hok he hg
  have p0 := cellN (i := 0) HX1.out rfl
  have pl := cell_lt HX1.out
  go_wp2_with (fail)
  obtain ⟨PF, hPF⟩ : ∃ p : Nat → Bool, p = fun k => decide (i ∈ rdAt l k) := ⟨_, rfl⟩
  have HPF := Lib.hid hPF
  clear hPF
  have hown0 : w1.ownsRow (w.heap.size + 1) 3 1 (.slice none 0 0) 0 [] := World.ownsRow_nil _ _ _ _
  go_loopw [7, 20] (fun pv iv wr => ∃ j : Nat, iv = .int .i64 (j : Int) ∧ j ≤ l.length ∧ Hid (wr.ownsRow (w.heap.size + 1) 3 1 pv (plF PF j).length ((plF PF j).map (Value.int .i64))) ∧ Hid (Below w.heap.size w wr) ∧ w.heap.size + 1 ≤ wr.heap.size) (fun _ iv _ => l.length - (intOf iv).toNat)
  case atStart => exact ⟨0, rfl, Nat.zero_le _, Lib.hid hown0, HB1, hs1'⟩
  case round =>
    obtain ⟨j, rfl, hj, HO, HBR, hsr⟩ := hrel
    by_cases hlt : j < l.length
    · have hjl : (j : Int) < (l.length : Int) := by omega
      have hat := (HL.out.below HBR.out).at hlt
      have hrd : rdAt l j = readsN l[j] := by unfold rdAt; rw [List.getElem?_eq_getElem hlt]
      have hln := HOK.out.fewG _ (List.getElem_mem hlt)
      generalize l[j] = n at *
      obtain ⟨b, o, rfl, hbl, hS, IA, SA, A, ic, sc, c, hN, a0, a1, a2, a3, a4, a5, a6, a7, a8, a9, a10, a11, a12, a13⟩ := hat
      obtain ⟨W1, hW1⟩ : ∃ W, wr.alloc (.cells #[.int .i64 n.op, .slice IA n.ins.length ic, .slice SA n.side.length sc, .string ⟨n.text.toArray⟩, .int .i64 n.ty.kind, .slice A n.ty.args.length c, .int .i64 n.f0, .int .i64 n.f1, .int .i64 n.f2, .int .i64 n.f3, .int .i64 n.e, .int .i64 n.l, .int .i64 n.lt, .bool n.acc] 83) = W := ⟨_, rfl⟩
      have hq : W1.heap[wr.heap.size]? = some (.cells #[.int .i64 n.op, .slice IA n.ins.length ic, .slice SA n.side.length sc, .string ⟨n.text.toArray⟩, .int .i64 n.ty.kind, .slice A n.ty.args.length c, .int .i64 n.f0, .int .i64 n.f1, .int .i64 n.f2, .int .i64 n.f3, .int .i64 n.e, .int .i64 n.l, .int .i64 n.lt, .bool n.acc] 83 (0, 0)) := by rw [← hW1]; exact heap_alloc_new wr _
      have hbw : Below wr.heap.size wr W1 := by rw [← hW1]; exact bl_al (Below.refl _ _) _
      have HC := Lib.hid (reads_any W1 S d n IA SA A ic sc c (hN.below hbw) hln)
      have HRD := Lib.hid hrd
      have HW1 := Lib.hid hW1
      have HBW := Lib.hid hbw
      have hrl : (readsN n).length ≤ 1000000 := by unfold readsN; rw [List.length_append]; exact hln
      have y0 := cellN (i := 0) hq rfl
      have y1 := cellN (i := 1) hq rfl
      have y2 := cellN (i := 2) hq rfl
      have y3 := cellN (i := 3) hq rfl
      have y4 := cellN (i := 4) hq rfl
      have y5 := cellN (i := 5) hq rfl
      have y6 := cellN (i := 6) hq rfl
      have y7 := cellN (i := 7) hq rfl
      have y8 := cellN (i := 8) hq rfl
      have y9 := cellN (i := 9) hq rfl
      have y10 := cellN (i := 10) hq rfl
      have y11 := cellN (i := 11) hq rfl
      have y12 := cellN (i := 12) hq rfl
      have y13 := cellN (i := 13) hq rfl
      have yl := cell_lt hq
      clear hN hrd hln hW1 hbw hq
      go_upto_region 8 with (fail)
      rw [HW1.out]
      go_wp2_with (fail)
      refine HC.out.mono ?_
      rintro e w2 ⟨⟨rv, rfl, hI⟩, hb2⟩
      have HCT := Lib.hid (contains_any _ _ _ i w2 hI (by omega))
      have HB2 := Lib.hid (bl_tr HBW.out hb2)
      clear hI hb2 y0 y1 y2 y3 y4 y5 y6 y7 y8 y9 y10 y11 y12 y13 yl
      go_wp2_with (fail)
      refine HCT.out.mono ?_
      rintro e w3 ⟨rfl, rfl⟩
      have HO2 := Lib.hid (HO.out.kept (row := none) ⟨HB2.out.os, HB2.out.tape, HB2.out.output, HB2.out.size, fun k hk _ => HB2.out.block k hk⟩ (Classical.em _))
      have HBR2 := Lib.hid (HBR.out.trans (HB2.out.mono HBR.out.size))
      have hs2 := HB2.out.size
      have hpl := plF_len PF j
      have hle := HO2.out.lt
      cases hm : decide (i ∈ readsN n) with
      | false =>
        have HP : Hid (plF PF (j + 1) = plF PF j) := Lib.hid (plF_no (by rw [HPF.out]; show decide (i ∈ rdAt l j) = false; rw [HRD.out]; exact hm))
        clear hm
        go_wp2_with (fail)
        go_roundw
        case rel => exact ⟨j + 1, by go_num, by omega, by rw [HP.out]; exact HO2, HBR2, by omega⟩
        case measure => simp [intOf]; omega
      | true =>
        have HP : Hid (plF PF (j + 1) = plF PF j ++ [(j : Int)]) := Lib.hid (plF_yes (by rw [HPF.out]; show decide (i ∈ rdAt l j) = true; rw [HRD.out]; exact hm))
        clear hm
        have hpb : w.heap.size + 1 ≤ w3.heap.size := by omega
        obtain ⟨PA, pc, rfl⟩ := own_slice HO2.out
        go_wp2_with (at_builtin; refine wpList_append_own_at _ rfl _ _ 41 rfl (w.heap.size + 1) 3 i0 (.int .i64 0) 1 8 Tryz.underlying41 hi hq0 hq1 hq2 rfl (by decide) _ (plF PF j).length ((plF PF j).map (Value.int .i64)) rfl (HO2.out.alloc _) ⟨w3.heap.size, 0, none⟩ 1 1 [.int .i64 (j : Int)] rfl rfl (World.news_of_block (cs := #[.int .i64 (j : Int)]) (t := 3) (fr := (0, 0)) (heap_alloc_new w3 _)) (by simp [Value.oneCell']) (by unfold maxLen; omega) (by omega) (by simp; omega) ?_; intro v7 w7 hown7 hg7 _ hat7)
        have H7O : Hid (w7.ownsRow (w.heap.size + 1) 3 1 v7 (plF PF (j + 1)).length ((plF PF (j + 1)).map (Value.int .i64))) := Lib.hid (by
          rw [HP.out]
          simpa using hown7)
        have H7B : Hid (Below w.heap.size w w7) := Lib.hid ((HBR2.out.alloc HBR2.out.size _).grown hg7 (by simp; omega) (fun k hk => by have := (hle k hk).1; omega))
        have h7s : w.heap.size + 1 ≤ w7.heap.size := by have := hg7.size; simp at this; omega
        go_roundw
        case rel => exact ⟨j + 1, by go_num, by omega, H7O, H7B, h7s⟩
        case measure => simp [intOf]; omega
    · obtain rfl : j = l.length := by omega
      have hjl : ¬ ((l.length : Int) < (l.length : Int)) := by omega
      have HF : Hid (IntsAt wr (fun b => w.heap.size ≤ b) _ (usersP l i)) := Lib.hid ((IntsAt.of_own (show wr.ownsRow (w.heap.size + 1) 3 1 _ (usersP l i).length ((usersP l i).map (Value.int .i64)) by unfold usersP; rw [← HPF.out]; exact HO.out)).move fun b hb1 hl => ⟨by omega, hl, fun _ => rfl⟩)
      go_wp2_with (fail)
      go_ret
      rw [HR.out]
      exact ⟨⟨_, rfl, HF.out⟩, HBR.out⟩
end Go.Proofs.YtllnamhgnbdkmaaGreatDoor
