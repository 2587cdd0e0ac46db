/-
The reader of package coder: readText.
-/
import Derived.Test.YtbafplnolmdlnaaDoorRdp
import Derived.Lib.BufferRead
namespace Go.Proofs.YtbafplnolmdlnaaDoor
open Go.RowKit

/-- Bytes as cells. -/
def bcl (l : List UInt8) : List Value := l.map fun b => .int .u8 (b.toNat : Int)
theorem bcl_length (l : List UInt8) : (bcl l).length = l.length := by simp [bcl]
theorem bcl_snoc (l : List UInt8) (x : UInt8) : bcl (l ++ [x]) = bcl l ++ [.int .u8 (x.toNat : Int)] := by simp [bcl]

/-- A text from m on: where it ends, and its bytes; acc: what there is already; half: a 00 stands ahead. -/
def textL (l : List UInt8) : Nat → List UInt8 → Bool → Nat → Nat × Option (List UInt8)
  | 0, _, _, m => (m, none)
  | f + 1, acc, half, m => match l[m]? with
    | none => (m, none)
    | some x =>
      if x = 0 then (if half then (m + 1, some acc) else textL l f acc true (m + 1))
      else if acc.length < 256 then
        (if half then (if x = 255 then textL l f (acc ++ [0]) false (m + 1) else (m, none)) else textL l f (acc ++ [x]) false (m + 1))
      else (m, none)

/-- What holds at the label of readText. -/
structure TxI (w : World) (R : Nat) (A : Option Addr) (c : Nat) (l : List UInt8) (sz : Nat) (acc : List UInt8) (m : Nat) (v : Value) (wr : World) : Prop where
  own : wr.ownsRow w.heap.size 5 1 v acc.length (bcl acc)
  only : Only R w wr
  box : wr.heap[R]? = some (.cells #[.slice A l.length c, .int .i64 (m : Int), .int .i64 (sz : Int)] 54 (0, 0))
  le : m ≤ l.length
  room : acc.length ≤ 256

theorem TxI.rdr {w wr : World} {R : Nat} {A : Option Addr} {c : Nat} {l : List UInt8} {m0 sz m : Nat} {acc : List UInt8} {v : Value} (h : TxI w R A c l sz acc m v wr) (hR : Rdr w R A c l m0 sz) : Rdr wr R A c l m sz :=
  ⟨h.box, hR.bytes.move fun b hb hl => ⟨hb, fun _ => World.cell?_of_block (h.only.block b hl (by simpa using hb))⟩, h.le, hR.len⟩

theorem Only.grown {R : Nat} {a w w' : World} {row : Option Nat} (h : Only R a w) (hg : w.grownBy w' row) (hr : ∀ k, row = some k → a.heap.size ≤ k) : Only R a w' :=
  ⟨hg.os.trans h.os, hg.tape.trans h.tape, hg.output.trans h.output, Nat.le_trans h.size hg.size, fun k hk hne => (hg.block k (Nat.lt_of_lt_of_le hk h.size) (fun e => by have := hr k e.symm; omega)).trans (h.block k hk hne)⟩

/-- The reader goes on by one, the row stays. -/
theorem TxI.on {w wr w3 : World} {R : Nat} {A : Option Addr} {c : Nat} {l : List UInt8} {sz m : Nat} {acc : List UInt8} {v : Value} (h : TxI w R A c l sz acc m v wr) (hb : Below wr.heap.size wr w3) (hR : R < w.heap.size) (hm : m < l.length) :
    TxI w R A c l sz acc (m + 1) v (w3.setCell ⟨R, 1, none⟩ (.int .i64 ((m : Int) + 1))) := by
  have hown3 := h.own.kept (row := none) ⟨hb.os, hb.tape, hb.output, hb.size, fun k hk _ => hb.block k hk⟩ (by cases hv : v.ownBlock <;> simp)
  have hRl : R < wr.heap.size := cell_lt h.box
  refine ⟨ownsRow_setCell_below hown3 hR _, (h.only.trans (Only.of_below hb)).trans (Only.set_ R 1 w3 _), ?_, hm, h.room⟩
  have hbx := (hb.block R hRl).trans h.box
  simp [World.setCell, Array.getElem?_modify, hbx]

/-- A byte is appended. -/
theorem TxI.app {w W w7 : World} {R : Nat} {A : Option Addr} {c : Nat} {l : List UInt8} {sz m : Nat} {acc : List UInt8} {v v' : Value} {o : Obj} {x : UInt8} (h : TxI w R A c l sz acc m v W) (hR : R < w.heap.size) (hg : (W.alloc o).grownBy w7 v.ownBlock)
    (hown : w7.ownsRow w.heap.size 5 1 v' (acc.length + 1) (bcl acc ++ [.int .u8 (x.toNat : Int)])) (hr : acc.length < 256) : TxI w R A c l sz (acc ++ [x]) m v' w7 := by
  have hW := h.only.size
  have hRW : R < W.heap.size := cell_lt h.box
  refine ⟨by rw [bcl_snoc, List.length_append]; exact hown, Only.grown (only_alloc' h.only o) hg (fun k hk => (h.own.lt k hk).1), ?_, h.le, by rw [List.length_append]; simp; omega⟩
  rw [hg.block R (by simp; omega) (fun e => by have := (h.own.lt R e.symm).1; omega), Below.heap_alloc _ _ _ hRW]
  exact h.box

set_option maxRecDepth 100000 in
theorem string_run {w wr : World} {B : Nat} {acc : List UInt8} {A : Option Addr} {n c : Nat} (h : wr.ownsRow B 5 1 (.slice A n c) acc.length (bcl acc)) (hb : ∀ k, (Value.slice A n c).ownBlock = some k → w.heap[k]? = wr.heap[k]?) :
    (convert 25 9 (.slice A n c)).run Tryd.prog w = .ok (.string ⟨acc.toArray⟩) w := by
  rcases h.2 with ⟨e, h0⟩ | ⟨g, cap, cur, e, _, hg, _, _, _, htk⟩
  · injection e with e1 e2 e3
    subst e1; subst e2; subst e3
    rw [Lib.run_convert_nil_bytes w 25 9 5 0 Tryd.underlying25 Tryd.underlying5 Tryd.underlying9, List.eq_nil_of_length_eq_zero h0]
  · injection e with e1 e2 e3
    subst e1; subst e2; subst e3
    have hg2 := (hb g rfl).trans hg
    exact run_convert_bytes_back w 25 9 5 ⟨g, 0, none⟩ c acc Tryd.underlying25 Tryd.underlying5 Tryd.underlying9 (Lib.bytes_of_row hg2 (by rw [← Nat.mul_one acc.length, htk]; rfl))

/-- A scope that is entered two statements ahead of the one label that its jumps go to. -/
theorem wp_scope_enter2 {P : Program} {a : Act} {w : World} {Q : Exit → Act → World → Prop} {p1 p2 rest : Code} {l : Nat} (J : Act → World → Prop) (μ : Act → World → Nat)
    (hf : findLabel (p1.seq (p2.seq ((Code.label l).seq rest))) l = some (Code.skip.seq rest))
    (first : p1.wp P (Exit.then (fun a w => p2.wp P (Exit.then J fun _ _ _ => False) a w) fun _ _ _ => False) a w)
    (pass : ∀ a w, J a w → rest.wp P (Exit.jump l (fun a' w' => J a' w' ∧ μ a' w' < μ a w) Q) a w) : (Code.scope (p1.seq (p2.seq ((Code.label l).seq rest)))).wp P Q a w := by
  refine wp_scope_jumps l J μ hf ?_ (fun a w hJ => wp_seq (wp_skip (pass a w hJ)))
  refine wp_seq (wp_mono first fun e a1 w1 h => ?_)
  cases e with
  | normal =>
    refine wp_seq (wp_mono h fun e a1 w1 h => ?_)
    cases e with
    | normal =>
      refine wp_seq (wp_label ?_)
      refine wp_mono (pass a1 w1 h) fun e a2 w2 h2 => ?_
      cases e with
      | goto l' => exact ⟨h2.1, h2.2.1⟩
      | _ => exact h2
    | _ => exact h.elim
  | _ => exact h.elim

def StrV (v : Value) : Prop := ∃ s : ByteArray, v = .string s
def TextV (t : List UInt8) (v : Value) : Prop := v = .string ⟨t.toArray⟩
theorem info5 : (Tryd.prog.info? 5).map (fun i => (i.zero, i.size, i.bytes)) = some (some (.int .u8 0), 1, 1) := by kernel_rfl
def mOf (R : Nat) (w : World) : Nat := (intOf ((w.cell? ⟨R, 1, none⟩).getD undef)).toNat

set_option maxRecDepth 100000 in
set_option maxHeartbeats 2000000 in
theorem text_any (R : Nat) (A : Option Addr) (c : Nat) (l : List UInt8) (m0 sz : Nat) (w : World) (h : Rdr w R A c l m0 sz) :
    Calls Tryd.prog 31 #[.pointer (some ⟨R, 0, none⟩)] w fun e w' => POut R A c l sz w e w' TextV StrV (textL l (l.length + 1 - m0) [] false m0) := by
  obtain ⟨i0, hi, hq0, hq1, hq2⟩ := info_parts info5
  have HR := Lib.hid h
  have hRl := h.lt
  have hlen := h.len
  have hle0 := h.le
  clear h
  go_enter Tryd.func31, Tryd.ntmps31
  go_wp2
  refine wp_scope_enter2 (fun a' w' => ∃ (acc : List UInt8) (half : Bool) (m : Nat) (v u6 u7 u8 u9 u10 u11 u12 u13 u14 u15 u16 u17 u18 u19 u20 u21 u22 u23 u24 u25 u26 u27 u28 u29 u30 u31 u32 u33 u34 u35 u36 u37 u38 u39 u40 u41 u42 u43 u44 u45 u46 u47 u48 u49 u50 u51 u52 u53 u54 u55 u56 u57 u58 u59 u60 : Value), a' = { tmps := #[.pointer (some ⟨R, 0, none⟩), undef, .string ⟨#[]⟩, .bool false, v, .bool half, u6, u7, u8, u9, u10, u11, u12, u13, u14, u15, u16, u17, u18, u19, u20, u21, u22, u23, u24, u25, u26, u27, u28, u29, u30, u31, u32, u33, u34, u35, u36, u37, u38, u39, u40, u41, u42, u43, u44, u45, u46, u47, u48, u49, u50, u51, u52, u53, u54, u55, u56, u57, u58, u59, u60], defers := [] } ∧ m0 ≤ m ∧ Hid (textL l (l.length + 1 - m0) [] false m0 = textL l (l.length + 1 - m) acc half m) ∧ Hid (TxI w R A c l sz acc m v w')) (fun _ w' => l.length + 1 - mOf R w') ?hf ?first ?pass
  case hf => rfl
  · go_wp2
    exact ⟨[], false, m0, .slice none 0 0, _, _, _, _, _, _, _, _, _, _, _, _, _, _, _, _, _, _, _, _, _, _, _, _, _, _, _, _, _, _, _, _, _, _, _, _, _, _, _, _, _, _, _, _, _, _, _, _, _, _, _, _, _, _, _, rfl, Nat.le_refl _, rfl, ⟨World.ownsRow_nil _ _ _ _, Only.refl _ _, HR.out.box, HR.out.le, by simp⟩⟩
  · rintro a' wr ⟨acc, half, m, v, u6, u7, u8, u9, u10, u11, u12, u13, u14, u15, u16, u17, u18, u19, u20, u21, u22, u23, u24, u25, u26, u27, u28, u29, u30, u31, u32, u33, u34, u35, u36, u37, u38, u39, u40, u41, u42, u43, u44, u45, u46, u47, u48, u49, u50, u51, u52, u53, u54, u55, u56, u57, u58, u59, u60, rfl, hm0, HE, HI⟩
    obtain ⟨Av, cv, rfl⟩ := own_slice HI.out.own
    have hml := HI.out.le
    have hroom := HI.out.room
    have HRr := Lib.hid (HI.out.rdr HR.out)
    go_wp2_with (fail)
    cases hx : l[m]? with
    | none =>
      have hm : m = l.length := by have := List.getElem?_eq_none_iff.1 hx; omega
      have HF : Hid (textL l (l.length + 1 - m0) [] false m0 = (m, none)) := by
        show _ = _
        rw [HE.out, show l.length + 1 - m = (l.length - m) + 1 by omega]
        simp only [textL, hx]
      clear hx
      subst hm
      refine (look_end R A c l sz wr HRr.out).mono ?_
      rintro e w3 ⟨rfl, hb⟩
      go_wp2_with (fail)
      simp only [Exit.jump]
      go_ret2
      rw [HF.out]
      exact ⟨⟨_, ⟨_, rfl⟩, rfl⟩, HI.out.only.trans (Only.of_below hb), HRr.out.below hb⟩
    | some x =>
      have hlt : m < l.length := (List.getElem?_eq_some_iff.1 hx).1
      have HX := Lib.hid hx
      have hfu : l.length + 1 - m = (l.length + 1 - (m + 1)) + 1 := by omega
      have HSTEP : Hid (textL l (l.length + 1 - m0) [] false m0 = (if x = 0 then (if half then (m + 1, some acc) else textL l (l.length + 1 - (m + 1)) acc true (m + 1)) else if acc.length < 256 then (if half then (if x = 255 then textL l (l.length + 1 - (m + 1)) (acc ++ [0]) false (m + 1) else (m, none)) else textL l (l.length + 1 - (m + 1)) (acc ++ [x]) false (m + 1)) else (m, none))) := by
        show _ = _
        rw [HE.out, hfu]
        simp only [textL, hx]
      clear hx hfu
      refine (look_at R A c l m sz x wr HRr.out HX.out).mono ?_
      rintro e w3 ⟨rfl, hb⟩
      have HR3 := Lib.hid (HRr.out.below hb)
      have c0 := cell3_0 HR3.out.box
      have c1 := cell3_1 HR3.out.box
      have f1 := cell3_f HR3.out.box 1
      have HON := Lib.hid (HI.out.on hb hRl hlt)
      have hmr : mOf R wr = m := by unfold mOf; rw [cell3_1 HI.out.box]; simp [intOf]
      have HMR := Lib.hid hmr
      clear hmr
      by_cases hx0 : x = 0
      · have hb0 : ((x.toNat : Int) == 0) = true := by simp [hx0]
        have hn0 : ((x.toNat : Int) != 0) = false := by simp [hx0]
        have HX0 := Lib.hid hx0
        clear hx0
        cases half with
        | true =>
          have HF : Hid (textL l (l.length + 1 - m0) [] false m0 = (m + 1, some acc)) := by show _ = _; rw [HSTEP.out, if_pos HX0.out]; rfl
          have hcv := string_run (w := w3.setCell ⟨R, 1, none⟩ (.int .i64 ((m : Int) + 1))) HI.out.own (fun k hk => by
            have hk2 := HI.out.own.lt k hk
            rw [Below.heap_setCell _ _ _ _ (by show k ≠ R; omega), hb.block k hk2.2])
          go_wp2_with (fail)
          simp only [Exit.jump]
          go_ret2
          rw [HF.out]
          exact ⟨⟨_, rfl, rfl⟩, HON.out.only, HON.out.rdr HR.out⟩
        | false =>
          have HF : Hid (textL l (l.length + 1 - m0) [] false m0 = textL l (l.length + 1 - (m + 1)) acc true (m + 1)) := by show _ = _; rw [HSTEP.out, if_pos HX0.out]; rfl
          go_wp2_with (fail)
          go_step3
          refine ⟨rfl, ⟨acc, true, m + 1, _, _, _, _, _, _, _, _, _, _, _, _, _, _, _, _, _, _, _, _, _, _, _, _, _, _, _, _, _, _, _, _, _, _, _, _, _, _, _, _, _, _, _, _, _, _, _, _, _, _, _, _, _, _, _, _, rfl, by omega, HF, HON⟩, ?_⟩
          have hm2 : mOf R (w3.setCell ⟨R, 1, none⟩ (.int .i64 ((m : Int) + 1))) = m + 1 := by unfold mOf; rw [cell3_1 HON.out.box]; simp [intOf]
          rw [hm2, HMR.out]; omega
      · have hb0 : ((x.toNat : Int) == 0) = false := u8_beq_false (b := 0) hx0
        have hn0 : ((x.toNat : Int) != 0) = true := by rw [bne, hb0]; rfl
        have HX0 := Lib.hid hx0
        clear hx0
        by_cases hr : acc.length < 256
        · have hrd : decide ((acc.length : Int) < 256) = true := by simp; omega
          have HTEN : Hid (textL l (l.length + 1 - m0) [] false m0 = (if half then (if x = 255 then textL l (l.length + 1 - (m + 1)) (acc ++ [0]) false (m + 1) else (m, none)) else textL l (l.length + 1 - (m + 1)) (acc ++ [x]) false (m + 1))) := by show _ = _; rw [HSTEP.out, if_neg HX0.out, if_pos hr]
          cases half with
          | true =>
            by_cases hxf : x = 255
            · have hff : ((x.toNat : Int) != 255) = false := by simp [hxf]
              have HF : Hid (textL l (l.length + 1 - m0) [] false m0 = textL l (l.length + 1 - (m + 1)) (acc ++ [0]) false (m + 1)) := by show _ = _; rw [HTEN.out, if_pos rfl, if_pos hxf]
              clear hxf
              go_wp2_with (at_builtin; refine wpList_append_own _ rfl _ _ 25 rfl w.heap.size 5 i0 (.int .u8 0) 1 1 Tryd.underlying25 hi hq0 hq1 hq2 rfl (by decide) _ acc.length (bcl acc) rfl (HON.out.own.alloc _) ⟨w3.heap.size, 0, none⟩ 1 1 [.int .u8 ((0 : UInt8).toNat : Int)] rfl rfl (cell_one_new' _ _ _ _ (by simp)) (by intro u hu; simp at hu; subst hu; rfl) (by unfold maxLen; omega) (by omega) (by have := HON.out.only.size; simp at this ⊢; omega) ?_; intro v' w7 hown7 hg7 _)
              go_step3
              refine ⟨rfl, ⟨acc ++ [0], false, m + 1, _, _, _, _, _, _, _, _, _, _, _, _, _, _, _, _, _, _, _, _, _, _, _, _, _, _, _, _, _, _, _, _, _, _, _, _, _, _, _, _, _, _, _, _, _, _, _, _, _, _, _, _, _, _, _, _, rfl, by omega, HF, Lib.hid (HON.out.app hRl hg7 hown7 hr)⟩, ?_⟩
              have hm2 : mOf R w7 = m + 1 := by unfold mOf; rw [cell3_1 (HON.out.app (x := 0) hRl hg7 hown7 hr).box]; simp [intOf]
              rw [hm2, HMR.out]; omega
            · have hff : ((x.toNat : Int) != 255) = true := by
                have := u8_beq_false (b := 255) hxf
                have h255 : (((255 : UInt8).toNat : Int)) = 255 := rfl
                rw [h255] at this
                rw [bne, this]; rfl
              have HF : Hid (textL l (l.length + 1 - m0) [] false m0 = (m, none)) := by show _ = _; rw [HTEN.out, if_pos rfl, if_neg hxf]
              clear hxf
              go_wp2_with (fail)
              simp only [Exit.jump]
              go_ret2
              rw [HF.out]
              exact ⟨⟨_, ⟨_, rfl⟩, rfl⟩, HI.out.only.trans (Only.of_below hb), HR3.out⟩
          | false =>
            have HF : Hid (textL l (l.length + 1 - m0) [] false m0 = textL l (l.length + 1 - (m + 1)) (acc ++ [x]) false (m + 1)) := by show _ = _; rw [HTEN.out, if_neg (by simp)]
            go_wp2_with (at_builtin; refine wpList_append_own _ rfl _ _ 25 rfl w.heap.size 5 i0 (.int .u8 0) 1 1 Tryd.underlying25 hi hq0 hq1 hq2 rfl (by decide) _ acc.length (bcl acc) rfl (HON.out.own.alloc _) ⟨w3.heap.size, 0, none⟩ 1 1 [.int .u8 (x.toNat : Int)] rfl rfl (cell_one_new' _ _ _ _ (by simp)) (by intro u hu; simp at hu; subst hu; rfl) (by unfold maxLen; omega) (by omega) (by have := HON.out.only.size; simp at this ⊢; omega) ?_; intro v' w7 hown7 hg7 _)
            go_step3
            refine ⟨rfl, ⟨acc ++ [x], false, m + 1, _, _, _, _, _, _, _, _, _, _, _, _, _, _, _, _, _, _, _, _, _, _, _, _, _, _, _, _, _, _, _, _, _, _, _, _, _, _, _, _, _, _, _, _, _, _, _, _, _, _, _, _, _, _, _, _, rfl, by omega, HF, Lib.hid (HON.out.app hRl hg7 hown7 hr)⟩, ?_⟩
            have hm2 : mOf R w7 = m + 1 := by unfold mOf; rw [cell3_1 (HON.out.app (x := x) hRl hg7 hown7 hr).box]; simp [intOf]
            rw [hm2, HMR.out]; omega
        · have hrd : decide ((acc.length : Int) < 256) = false := by simp; omega
          have HF : Hid (textL l (l.length + 1 - m0) [] false m0 = (m, none)) := by show _ = _; rw [HSTEP.out, if_neg HX0.out, if_neg hr]
          go_wp2_with (fail)
          simp only [Exit.jump]
          go_ret2
          rw [HF.out]
          exact ⟨⟨_, ⟨_, rfl⟩, rfl⟩, HI.out.only.trans (Only.of_below hb), HR3.out⟩
end Go.Proofs.YtbafplnolmdlnaaDoor
