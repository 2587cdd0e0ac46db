/-
Stage 11: Show.
-/
import Derived.Test.YtllnamhgnbdkmaaGreatDoorJo
set_option linter.unusedVariables false
set_option linter.unusedSimpArgs false
namespace Go.Proofs.YtllnamhgnbdkmaaGreatDoor
open Go.RowKit Go.Shelf Go.Sort

theorem formP_tx {n : Gn} (h : formP n = true) : n.text.length ≤ 1000 := by
  unfold formP at h
  simp only [Bool.and_eq_true] at h
  have h1 := h.1
  split at h1
  · unfold isTx at h1
    simp only [Bool.and_eq_true, decide_eq_true_eq] at h1
    exact h1.1.2
  · unfold noTx at h1
    have := List.isEmpty_iff.1 h1
    rw [this]
    simp
theorem formP_ty {n : Gn} (h : formP n = true) (ho : n.op = 1) : (Knd.measureT 6 n.ty).isSome = true := by
  unfold formP at h
  simp only [Bool.and_eq_true] at h
  have h1 := h.2.1
  rw [if_pos ho] at h1
  exact h1
theorem line_len {l : List Gn} {i : Nat} {n : Gn} (h : OkN l i n) (hr : GnR n) : (Lib.join (partsP n) [32]).length ≤ 200000 := by
  have hf := h.few
  have hp1 := placeT_len (l := n.ins) (by omega) hr.ins
  have hp2 := placeT_len (l := n.side) (by omega) hr.side
  have hx := formP_tx h.form
  have hi : ∀ x, i64R x → (Lib.itoa x).length ≤ 30000 := fun x hx => Nat.le_trans (Lib.itoa_length_le x hx.1 hx.2) (by omega)
  have hall : ∀ x ∈ partsP n, x.length ≤ 30000 := by
    intro x hm
    unfold partsP at hm
    split at hm
    · rename_i h1
      have h2 := formP_ty h.form h1
      obtain ⟨q, hq⟩ := Option.isSome_iff_exists.1 h2
      have := Knd.textT_small 6 n.ty q hq
      simp only [List.mem_cons, List.not_mem_nil, or_false] at hm
      subst hm
      omega
    split at hm
    · simp only [List.mem_cons, List.not_mem_nil, or_false] at hm
      rcases hm with rfl | rfl | rfl <;> omega
    split at hm
    · simp only [List.mem_cons, List.not_mem_nil, or_false] at hm
      rcases hm with rfl | rfl | rfl | rfl | rfl
      · omega
      · exact hi _ hr.f0
      · exact hi _ hr.f1
      · exact hi _ hr.f2
      · exact hi _ hr.f3
    split at hm
    · simp only [List.mem_cons, List.not_mem_nil, or_false] at hm
      rcases hm with rfl | rfl | rfl | rfl | rfl | rfl
      · omega
      · exact hi _ hr.e
      · exact hi _ hr.l
      · exact hi _ hr.lt
      · split <;> simp
      · omega
    · simp only [List.mem_cons, List.not_mem_nil, or_false] at hm
      subst hm
      omega
  have := join_len [32] 30000 (partsP n) hall
  have h6 := partsP_few n
  simp at this
  have : (partsP n).length * 30001 ≤ 6 * 30001 := Nat.mul_le_mul_right _ h6
  omega

/-- The text of nodes. -/
def textP (l : List Gn) : List UInt8 := l.flatMap fun n => lineP n ++ [10]
theorem textP_snoc (l : List Gn) (n : Gn) : textP (l ++ [n]) = textP l ++ lineP n ++ [10] := by
  unfold textP
  simp
/-- What Show tells. -/
def showP (l : List Gn) : List UInt8 := if (chkAll l).2 = 0 then textP l else []
theorem lineP_len {l : List Gn} {i : Nat} {n : Gn} (h : OkN l i n) (hr : GnR n) : (lineP n).length ≤ 200010 := by
  obtain ⟨o, ho, _⟩ := h.op
  have hwl : o.word.length ≤ 7 := (show ∀ o ∈ gops, o.word.length ≤ 7 by decide) o (opP_mem ho).1
  have := line_len h hr
  unfold lineP opWord
  rw [ho]
  simp only [List.length_append, List.length_cons, List.length_nil]
  omega
theorem textP_len {l : List Gn} (hok : OkG l) (hr : ∀ n ∈ l, GnR n) : ∀ j, j ≤ l.length → (textP (l.take j)).length ≤ j * 200011
  | 0, _ => by simp [textP]
  | j + 1, hj => by
    have := textP_len hok hr j (by omega)
    have hlt : j < l.length := hj
    have h1 := lineP_len (hok.each j _ (List.getElem?_eq_getElem hlt)) (hr _ (List.getElem_mem hlt))
    have e : l.take (j + 1) = l.take j ++ [l[j]] := by simp
    rw [e, textP_snoc]
    simp only [List.length_append, List.length_cons, List.length_nil]
    omega

set_option maxRecDepth 100000 in
set_option maxHeartbeats 8000000 in
theorem show_any (w : World) (S : Nat → Prop) (d : Nat) (gv : Value) (l : List Gn) (hL : GsAt w S d gv l) (hf : FewG l) (hlen : l.length ≤ 1000000) (hr : ∀ n ∈ l, GnR n) (hG : Gk w) :
    Calls Tryz.prog 15 #[.agg #[gv]] w fun e w' => e = .returned (.tuple #[.string ⟨(showP l).toArray⟩, .int .i64 (chkAll l).2]) ∧ Below w.heap.size w w' := by
  obtain ⟨GA, gc, rfl⟩ := hL.form
  obtain ⟨W0, hW0⟩ : ∃ W0, w.alloc (.cells #[.slice GA l.length gc] 27) = W0 := ⟨_, rfl⟩
  have hx : W0.heap[w.heap.size]? = some (.cells #[.slice GA l.length gc] 27 (0, 0)) := by rw [← hW0]; exact heap_alloc_new w _
  have hB0 : Below w.heap.size w W0 := by rw [← hW0]; exact bl_al (Below.refl _ _) _
  have hs0 : W0.heap.size = w.heap.size + 1 := by rw [← hW0]; simp
  have HCK := Lib.hid (checkAll_any W0 S d _ l (hL.below hB0) hf hlen (hG.below hB0))
  have HL := Lib.hid hL
  have HX := Lib.hid hx
  have HB0 := Lib.hid hB0
  have HW0 := Lib.hid hW0
  have HS0 := Lib.hid hs0
  have HR := Lib.hid hr
  have HG := Lib.hid hG
  have p0 := cellN (i := 0) hx rfl
  have pl := cell_lt hx
  clear hL hG hx hB0 hW0 hs0 hr
  go_enter Tryz.func15, Tryz.ntmps15
  go_upto_region 1 with (fail)
  rw [HW0.out]
  clear HW0
  go_wp2_with (fail)
  refine HCK.out.mono ?_
  rintro e w1 ⟨rfl, hb1⟩
  have HX1 := Lib.hid (bl_blk hb1 HX.out)
  have HB1 := Lib.hid (HB0.out.trans (hb1.mono HB0.out.size))
  have hs1 := hb1.size
  have hs1' : w.heap.size + 1 ≤ w1.heap.size := by have := HS0.out; omega
  clear hb1 p0 pl hs1 HX HB0
  by_cases hok : (chkAll l).2 = 0
  case neg =>
    have hk1 : ((chkAll l).2 == 0) = false := by simp [hok]
    have hk2 : ((chkAll l).2 != 0) = true := by simp [hok]
    have HS : Hid (showP l = []) := Lib.hid (if_neg hok)
    clear hok
    go_wp2_with (fail)
    refine bodyPost_ret (v := .tuple #[.string ⟨#[]⟩, .int .i64 (chkAll l).2]) (by simp [results, Tryz.results15, go_sem]) rfl ?_
    rw [HS.out]
    exact ⟨rfl, HB1.out⟩
  have HS : Hid (showP l = textP l) := Lib.hid (if_pos hok)
  obtain ⟨hg, he⟩ := okG hok
  have HOK := Lib.hid hg
  have h32 := hg.few
  have HCE := Lib.hid he
  rw [he]
  clear hok he hg
  have hp1 := alloc_old (o := .cells #[.pointer none, .slice none 0 0] 89) HX1.out
  have p0 := cellN (i := 0) hp1 rfl
  have pl := cell_lt hp1
  have hBl : Knd.Bld (w1.alloc (.cells #[.pointer none, .slice none 0 0] 89)) w1.heap.size (Knd.bc []) :=
    .inl ⟨Nat.le_refl _, .slice none 0 0, heap_alloc_new w1 _, World.ownsRow_nil _ _ _ _, by simp [Value.ownBlock]⟩
  have HBl := Lib.hid hBl
  have HB2 := Lib.hid (HB1.out.alloc HB1.out.size (.cells #[.pointer none, .slice none 0 0] 89))
  clear hp1 hBl
  go_wp2_with (fail)
  go_loopw [20] (fun iv wr => ∃ j : Nat, iv = .int .i64 (j : Int) ∧ j ≤ l.length ∧ Hid (Knd.Bld wr w1.heap.size (Knd.bc (textP (l.take j)))) ∧ Hid (Below w.heap.size w wr)) (fun iv _ => l.length - (intOf iv).toNat)
  case atStart => exact ⟨0, rfl, Nat.zero_le _, Lib.hid (by simpa [textP] using HBl.out), HB2⟩
  case round =>
    obtain ⟨j, rfl, hj, HBD, HBR⟩ := hrel
    have hbl := HBD.out.lt
    by_cases hlt : j < l.length
    · have hjl : (j : Int) < (l.length : Int) := by omega
      have hat := (HL.out.below HBR.out).at hlt
      have htk : l.take (j + 1) = l.take j ++ [l[j]] := by simp
      have hoN := HOK.out.each j _ (List.getElem?_eq_getElem hlt)
      have hrn := HR.out _ (List.getElem_mem hlt)
      have hll := lineP_len hoN hrn
      have hlj := line_len hoN hrn
      have htl := textP_len HOK.out HR.out j hj
      have hfw := hoN.few
      have hty := fun h1 => formP_ty hoN.form h1
      have hop : (opP l[j].op).isSome = true := by
        obtain ⟨o, ho, _⟩ := hoN.op
        rw [ho]
        rfl
      generalize l[j] = n at *
      obtain ⟨b, o, rfl, hbl2, hS, IA, SA, A, ic, sc, c, hN, a0, a1, a2, a3, a4, a5, a6, a7, a8, a9, a10, a11, a12, a13⟩ := hat
      obtain ⟨W1, hW1⟩ : ∃ W, wr.alloc (.cells #[.int .i64 n.op, .slice IA n.ins.length ic, .slice SA n.side.length sc, .string ⟨n.text.toArray⟩, .int .i64 n.ty.kind, .slice A n.ty.args.length c, .int .i64 n.f0, .int .i64 n.f1, .int .i64 n.f2, .int .i64 n.f3, .int .i64 n.e, .int .i64 n.l, .int .i64 n.lt, .bool n.acc] 83) = W := ⟨_, rfl⟩
      have hq : W1.heap[wr.heap.size]? = some (.cells #[.int .i64 n.op, .slice IA n.ins.length ic, .slice SA n.side.length sc, .string ⟨n.text.toArray⟩, .int .i64 n.ty.kind, .slice A n.ty.args.length c, .int .i64 n.f0, .int .i64 n.f1, .int .i64 n.f2, .int .i64 n.f3, .int .i64 n.e, .int .i64 n.l, .int .i64 n.lt, .bool n.acc] 83 (0, 0)) := by rw [← hW1]; exact heap_alloc_new wr _
      have hbw : Below wr.heap.size wr W1 := by rw [← hW1]; exact bl_al (Below.refl _ _) _
      have HBW := Lib.hid (HBR.out.trans (hbw.mono HBR.out.size))
      have HC := Lib.hid (line_any W1 S d n IA SA A ic sc c (hN.below hbw) (by omega) (by omega) hrn hty hop (by omega) (HG.out.below HBW.out))
      have HBD1 := Lib.hid (HBD.out.below hbw)
      have HTK := Lib.hid htk
      have hlen2 : (textP (l.take j)).length + (lineP n).length ≤ 900000000 := by
        have : j * 200011 ≤ 32 * 200011 := Nat.mul_le_mul_right _ (by omega)
        omega
      have HLN := Lib.hid hlen2
      have HW1 := Lib.hid hW1
      have hsw := hbw.size
      have y0 := cellN (i := 0) hq rfl
      have y1 := cellN (i := 1) hq rfl
      have y2 := cellN (i := 2) hq rfl
      have y3 := cellN (i := 3) hq rfl
      have y4 := cellN (i := 4) hq rfl
      have y5 := cellN (i := 5) hq rfl
      have y6 := cellN (i := 6) hq rfl
      have y7 := cellN (i := 7) hq rfl
      have y8 := cellN (i := 8) hq rfl
      have y9 := cellN (i := 9) hq rfl
      have y10 := cellN (i := 10) hq rfl
      have y11 := cellN (i := 11) hq rfl
      have y12 := cellN (i := 12) hq rfl
      have y13 := cellN (i := 13) hq rfl
      have yl := cell_lt hq
      clear hN htk hoN hrn hll hlj htl hfw hty hop hW1 hbw hq hlen2
      go_upto_region 8 with (fail)
      rw [HW1.out]
      go_wp2_with (fail)
      refine HC.out.mono ?_
      rintro e w2 ⟨rfl, hb2⟩
      have HBD2 := Lib.hid (HBD1.out.below hb2)
      have HBR2 := Lib.hid (HBW.out.trans (hb2.mono HBW.out.size))
      clear hb2 y0 y1 y2 y3 y4 y5 y6 y7 y8 y9 y10 y11 y12 y13 yl
      go_wp2_with (fail)
      refine (Knd.writeString_any w1.heap.size _ ⟨(lineP n).toArray⟩ w2 HBD2.out (by have := HLN.out; simp [Knd.bc, Lib.byteCells, ByteArray.size]; omega)).mono ?_
      rintro e w3 ⟨rfl, hBd3, hF3⟩
      have HBD3 := Lib.hid hBd3
      have HBR3 := Lib.hid (HBR2.out.trans (hF3.below.mono (by omega)))
      clear hBd3 hF3
      go_wp2_with (fail)
      refine (Knd.writeByte_any w1.heap.size _ 10 w3 HBD3.out (by have := HLN.out; simp [Knd.bc, Lib.byteCells, Lib.strCells, ByteArray.size]; omega)).mono ?_
      rintro e w4 ⟨rfl, hBd4, hF4⟩
      have HBR4 := Lib.hid (HBR3.out.trans (hF4.below.mono (by omega)))
      have HBD4 : Hid (Knd.Bld w4 w1.heap.size (Knd.bc (textP (l.take (j + 1))))) := Lib.hid (by
        rw [HTK.out, textP_snoc, Knd.bc_append, Knd.bc_append]
        exact hBd4)
      clear hBd4 hF4
      go_wp2_with (fail)
      go_roundw
      case rel => exact ⟨j + 1, by go_num, by omega, HBD4, HBR4⟩
      case measure => simp [intOf]; omega
    · obtain rfl : j = l.length := by omega
      have hjl : ¬ ((l.length : Int) < (l.length : Int)) := by omega
      have hBd := HBD.out
      rw [List.take_length] at hBd
      have HBD := Lib.hid hBd
      clear hBd
      go_wp2_with (fail)
      refine (Tryz.Builder_String_any_k w1.heap.size w1.heap.size (textP l) _ (Lib.IsBuilderF.of HBD.out) (by omega)).mono ?_
      rintro e w4 ⟨rfl, _, hb4, _⟩
      have HB4 := Lib.hid (HBR.out.trans (hb4.mono (by omega)))
      clear hb4
      go_wp2_with (fail)
      refine bodyPost_ret (v := .tuple #[.string ⟨(textP l).toArray⟩, .int .i64 0]) (by simp [results, Tryz.results15, go_sem]) rfl ?_
      rw [HS.out, HCE.out]
      exact ⟨rfl, HB4.out⟩

end Go.Proofs.YtllnamhgnbdkmaaGreatDoor
