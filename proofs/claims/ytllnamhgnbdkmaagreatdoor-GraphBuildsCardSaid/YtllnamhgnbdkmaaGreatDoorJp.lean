/-
Stage 11: a node's line.
-/
import Derived.Test.YtllnamhgnbdkmaaGreatDoorJn
set_option linter.unusedVariables false
set_option linter.unusedSimpArgs false
namespace Go.Proofs.YtllnamhgnbdkmaaGreatDoor
open Go.RowKit Go.Shelf Go.Sort
def opWord (k : Int) : List UInt8 := match opP k with
  | some o => o.word
  | none => []
def lineP (n : Gn) : List UInt8 := opWord n.op ++ ([32] ++ Lib.join (partsP n) [32])
theorem partsP_few (n : Gn) : (partsP n).length ≤ 6 := by
  unfold partsP
  split
  · simp
  split
  · simp
  split
  · simp
  split
  · simp
  · simp
theorem keepo {w0 W : World} {p q : Nat} {a0 a1 a2 a3 a4 a5 a6 a7 a8 a9 a10 a11 a12 a13 b1 : Value} (h0 : w0.cell? ⟨p, 0, none⟩ = some a0) (h1 : w0.cell? ⟨p, 1, none⟩ = some a1) (h2 : w0.cell? ⟨p, 2, none⟩ = some a2) (h3 : w0.cell? ⟨p, 3, none⟩ = some a3) (h4 : w0.cell? ⟨p, 4, none⟩ = some a4) (h5 : w0.cell? ⟨p, 5, none⟩ = some a5) (h6 : w0.cell? ⟨p, 6, none⟩ = some a6) (h7 : w0.cell? ⟨p, 7, none⟩ = some a7) (h8 : w0.cell? ⟨p, 8, none⟩ = some a8) (h9 : w0.cell? ⟨p, 9, none⟩ = some a9) (h10 : w0.cell? ⟨p, 10, none⟩ = some a10) (h11 : w0.cell? ⟨p, 11, none⟩ = some a11) (h12 : w0.cell? ⟨p, 12, none⟩ = some a12) (h13 : w0.cell? ⟨p, 13, none⟩ = some a13) (g1 : w0.cell? ⟨q, 1, none⟩ = some b1) (hp : p < w0.heap.size) (hq : q < w0.heap.size) (h : Below w0.heap.size w0 W) : W.cell? ⟨p, 0, none⟩ = some a0 ∧ W.cell? ⟨p, 1, none⟩ = some a1 ∧ W.cell? ⟨p, 2, none⟩ = some a2 ∧ W.cell? ⟨p, 3, none⟩ = some a3 ∧ W.cell? ⟨p, 4, none⟩ = some a4 ∧ W.cell? ⟨p, 5, none⟩ = some a5 ∧ W.cell? ⟨p, 6, none⟩ = some a6 ∧ W.cell? ⟨p, 7, none⟩ = some a7 ∧ W.cell? ⟨p, 8, none⟩ = some a8 ∧ W.cell? ⟨p, 9, none⟩ = some a9 ∧ W.cell? ⟨p, 10, none⟩ = some a10 ∧ W.cell? ⟨p, 11, none⟩ = some a11 ∧ W.cell? ⟨p, 12, none⟩ = some a12 ∧ W.cell? ⟨p, 13, none⟩ = some a13 ∧ W.cell? ⟨q, 1, none⟩ = some b1 ∧ Below w0.heap.size w0 W :=
  ⟨(World.cell?_of_block (h.block _ hp)).trans h0, (World.cell?_of_block (h.block _ hp)).trans h1, (World.cell?_of_block (h.block _ hp)).trans h2, (World.cell?_of_block (h.block _ hp)).trans h3, (World.cell?_of_block (h.block _ hp)).trans h4, (World.cell?_of_block (h.block _ hp)).trans h5, (World.cell?_of_block (h.block _ hp)).trans h6, (World.cell?_of_block (h.block _ hp)).trans h7, (World.cell?_of_block (h.block _ hp)).trans h8, (World.cell?_of_block (h.block _ hp)).trans h9, (World.cell?_of_block (h.block _ hp)).trans h10, (World.cell?_of_block (h.block _ hp)).trans h11, (World.cell?_of_block (h.block _ hp)).trans h12, (World.cell?_of_block (h.block _ hp)).trans h13, (World.cell?_of_block (h.block _ hq)).trans g1, h⟩
set_option maxRecDepth 100000 in
set_option maxHeartbeats 8000000 in
theorem line_any (w : World) (S : Nat → Prop) (d : Nat) (n : Gn) (IA SA A : Option Addr) (ic sc c : Nat) (hN : GnAt w S d (n.val IA SA A ic sc c) n) (hI : n.ins.length ≤ 1000) (hS : n.side.length ≤ 1000) (hR : GnR n) (hT1 : n.op = 1 → (Knd.measureT 6 n.ty).isSome = true) (hop : (opP n.op).isSome = true) (hJ : (Lib.join (partsP n) [32]).length ≤ 1000000) (hG : Gk w) :
    Calls Tryz.prog 44 #[.agg #[.int .i64 n.op, .slice IA n.ins.length ic, .slice SA n.side.length sc, .string ⟨n.text.toArray⟩, .int .i64 n.ty.kind, .slice A n.ty.args.length c, .int .i64 n.f0, .int .i64 n.f1, .int .i64 n.f2, .int .i64 n.f3, .int .i64 n.e, .int .i64 n.l, .int .i64 n.lt, .bool n.acc]] w fun e w' => e = .returned (.string ⟨(lineP n).toArray⟩) ∧ Below w.heap.size w w' := by
  obtain ⟨o, ho⟩ := Option.isSome_iff_exists.1 hop
  have hnf : n.val IA SA A ic sc c = .agg #[.int .i64 n.op, .slice IA n.ins.length ic, .slice SA n.side.length sc, .string ⟨n.text.toArray⟩, .int .i64 n.ty.kind, .slice A n.ty.args.length c, .int .i64 n.f0, .int .i64 n.f1, .int .i64 n.f2, .int .i64 n.f3, .int .i64 n.e, .int .i64 n.l, .int .i64 n.lt, .bool n.acc] := rfl
  obtain ⟨W0, hW0⟩ : ∃ W0, w.alloc (.cells #[.int .i64 n.op, .slice IA n.ins.length ic, .slice SA n.side.length sc, .string ⟨n.text.toArray⟩, .int .i64 n.ty.kind, .slice A n.ty.args.length c, .int .i64 n.f0, .int .i64 n.f1, .int .i64 n.f2, .int .i64 n.f3, .int .i64 n.e, .int .i64 n.l, .int .i64 n.lt, .bool n.acc] 83) = W0 := ⟨_, rfl⟩
  have hx : W0.heap[w.heap.size]? = some (.cells #[.int .i64 n.op, .slice IA n.ins.length ic, .slice SA n.side.length sc, .string ⟨n.text.toArray⟩, .int .i64 n.ty.kind, .slice A n.ty.args.length c, .int .i64 n.f0, .int .i64 n.f1, .int .i64 n.f2, .int .i64 n.f3, .int .i64 n.e, .int .i64 n.l, .int .i64 n.lt, .bool n.acc] 83 (0, 0)) := by rw [← hW0]; exact heap_alloc_new w _
  have hB0 : Below w.heap.size w W0 := by rw [← hW0]; exact bl_al (Below.refl _ _) _
  obtain ⟨WD, hWD⟩ : ∃ B : ByteArray, (⟨o.word.toArray⟩ : ByteArray) = B := ⟨_, rfl⟩
  obtain ⟨J, hJe⟩ : ∃ B : ByteArray, (⟨(Lib.join (partsP n) [32]).toArray⟩ : ByteArray) = B := ⟨_, rfl⟩
  have hwl : o.word.length ≤ 7 := (show ∀ o ∈ gops, o.word.length ≤ 7 by decide) o (opP_mem ho).1
  have sW : WD.size ≤ 7 := by rw [← hWD]; simpa [ByteArray.size] using hwl
  have sJ : J.size ≤ 1000000 := by rw [← hJe]; simpa [ByteArray.size] using hJ
  have HE : Hid ((⟨(lineP n).toArray⟩ : ByteArray) = WD ++ ⟨#[32]⟩ ++ J) := Lib.hid (by
    rw [← hWD, ← hJe]
    apply ByteArray.ext
    unfold lineP opWord
    rw [ho]
    simp [ByteArray.data_append])
  have n1 : ¬ 9223372036854775807 < WD.size + 1 := by omega
  have n2 : ¬ 9223372036854775807 < WD.size + 1 + J.size := by omega
  have HO0 := Lib.hid (opOf_any n.op W0 (hG.below hB0).op)
  rw [ho] at HO0
  have HO : Hid (Calls Tryz.prog 66 #[.int .i64 n.op] W0 fun e w' => e = .returned (.tuple #[.agg #[.int .i64 o.number, .string WD, .int .i64 o.parts, .int .i64 o.least, .int .i64 o.most, .int .i64 o.side], .bool true]) ∧ Below W0.heap.size W0 w') := Lib.hid (by
    have h := HO0.out
    simp only [Option.getD_some, Option.isSome_some, Gop.val] at h
    rw [hWD] at h
    exact h)
  have HPA : Hid (∀ W, Below w.heap.size w W → Calls Tryz.prog 76 #[.agg #[.int .i64 n.op, .slice IA n.ins.length ic, .slice SA n.side.length sc, .string ⟨n.text.toArray⟩, .int .i64 n.ty.kind, .slice A n.ty.args.length c, .int .i64 n.f0, .int .i64 n.f1, .int .i64 n.f2, .int .i64 n.f3, .int .i64 n.e, .int .i64 n.l, .int .i64 n.lt, .bool n.acc]] W fun e w' => (∃ v', e = .returned v' ∧ StrsAt w' (fun b => W.heap.size ≤ b) v' (partsP n)) ∧ Below W.heap.size W w') := Lib.hid fun W hb => parts_any W S d n IA SA A ic sc c (hN.below hb) hI hS hR hT1 (hG.below hb)
  have HJO : Hid (∀ (W : World) (v : Value), (∃ P, StrsAt W P v (partsP n)) → Calls Tryz.prog 75 #[v, .string ⟨#[32]⟩] W fun e w' => e = .returned (.string J) ∧ Below W.heap.size W w') := Lib.hid fun W v ⟨P, h⟩ => by
    have := join_any P v (partsP n) [32] W h (Nat.le_trans (partsP_few n) (by omega)) (by omega)
    rw [hJe] at this
    exact this
  have HW0 := Lib.hid hW0
  have HX := Lib.hid hx
  have HB0 := Lib.hid hB0
  rw [HE.out]
  clear hN hG hW0 hx hB0 hR hT1 hI hS hop ho hWD hJe hwl hJ hnf HO0
  go_enter Tryz.func44, Tryz.ntmps44
  go_upto_region 1 with (fail)
  rw [HW0.out]
  clear HW0
  have c0 := cellN (i := 0) HX.out rfl
  have cl := cell_lt HX.out
  go_upto_region 2 with (go_at_call 66; (with_reducible refine HO.out.mono ?_); rintro e w1 ⟨rfl, hb1⟩; have HB1 := Lib.hid (HB0.out.trans (hb1.mono HB0.out.size)); have hx1 := bl_blk hb1 HX.out; clear hb1 c0)
  have hz := heap_alloc_new w1 (.cells #[.int .i64 o.number, .string WD, .int .i64 o.parts, .int .i64 o.least, .int .i64 o.most, .int .i64 o.side] 121)
  have hx2 := alloc_old (o := .cells #[.int .i64 o.number, .string WD, .int .i64 o.parts, .int .i64 o.least, .int .i64 o.most, .int .i64 o.side] 121) hx1
  have hB2 : Below w.heap.size w (w1.alloc (.cells #[.int .i64 o.number, .string WD, .int .i64 o.parts, .int .i64 o.least, .int .i64 o.most, .int .i64 o.side] 121)) := HB1.out.alloc HB1.out.size _
  generalize w1.alloc (.cells #[.int .i64 o.number, .string WD, .int .i64 o.parts, .int .i64 o.least, .int .i64 o.most, .int .i64 o.side] 121) = W2 at *
  have HB2 := Lib.hid hB2
  have y0 := cellN (i := 0) hx2 rfl
  have y1 := cellN (i := 1) hx2 rfl
  have y2 := cellN (i := 2) hx2 rfl
  have y3 := cellN (i := 3) hx2 rfl
  have y4 := cellN (i := 4) hx2 rfl
  have y5 := cellN (i := 5) hx2 rfl
  have y6 := cellN (i := 6) hx2 rfl
  have y7 := cellN (i := 7) hx2 rfl
  have y8 := cellN (i := 8) hx2 rfl
  have y9 := cellN (i := 9) hx2 rfl
  have y10 := cellN (i := 10) hx2 rfl
  have y11 := cellN (i := 11) hx2 rfl
  have y12 := cellN (i := 12) hx2 rfl
  have y13 := cellN (i := 13) hx2 rfl
  have yl := cell_lt hx2
  have z1 := cellN (i := 1) hz rfl
  have zl := cell_lt hz
  have HBC : Hid (Below W2.heap.size W2 W2) := Lib.hid (Below.refl _ _)
  clear hz hx2 hx1 hB2
  go_region_held3 (fun W => W.cell? ⟨w.heap.size, 0, none⟩ = some (.int .i64 n.op) ∧ W.cell? ⟨w.heap.size, 1, none⟩ = some (.slice IA n.ins.length ic) ∧ W.cell? ⟨w.heap.size, 2, none⟩ = some (.slice SA n.side.length sc) ∧ W.cell? ⟨w.heap.size, 3, none⟩ = some (.string ⟨n.text.toArray⟩) ∧ W.cell? ⟨w.heap.size, 4, none⟩ = some (.int .i64 n.ty.kind) ∧ W.cell? ⟨w.heap.size, 5, none⟩ = some (.slice A n.ty.args.length c) ∧ W.cell? ⟨w.heap.size, 6, none⟩ = some (.int .i64 n.f0) ∧ W.cell? ⟨w.heap.size, 7, none⟩ = some (.int .i64 n.f1) ∧ W.cell? ⟨w.heap.size, 8, none⟩ = some (.int .i64 n.f2) ∧ W.cell? ⟨w.heap.size, 9, none⟩ = some (.int .i64 n.f3) ∧ W.cell? ⟨w.heap.size, 10, none⟩ = some (.int .i64 n.e) ∧ W.cell? ⟨w.heap.size, 11, none⟩ = some (.int .i64 n.l) ∧ W.cell? ⟨w.heap.size, 12, none⟩ = some (.int .i64 n.lt) ∧ W.cell? ⟨w.heap.size, 13, none⟩ = some (.bool n.acc) ∧ W.cell? ⟨w1.heap.size, 1, none⟩ = some (.string WD) ∧ Below W2.heap.size W2 W)
    (exact keepo y0 y1 y2 y3 y4 y5 y6 y7 y8 y9 y10 y11 y12 y13 z1 yl zl (by repeat' (first | with_reducible exact HBC.out | with_reducible exact Below.refl _ _ | with_reducible refine bl_al ?_ _ | with_reducible refine bl_dr ?_)))
    (first
    | (go_at_call 76; (with_reducible refine (HPA.out _ ?_).mono ?_); (focus exact HB2.out.trans (Below.mono (by repeat' (first | with_reducible exact HBC.out | with_reducible exact Below.refl _ _ | with_reducible refine bl_al ?_ _ | with_reducible refine bl_dr ?_)) HB2.out.size)); rintro e wx ⟨⟨pv, rfl, hp⟩, hbx⟩; have HP := Lib.hid hp; have HBC : Hid (Below W2.heap.size W2 wx) := Lib.hid (bl_tr (by repeat' (first | with_reducible exact HBC.out | with_reducible exact Below.refl _ _ | with_reducible refine bl_al ?_ _ | with_reducible refine bl_dr ?_)) hbx); clear hbx hp)
    | (go_at_call 75; (with_reducible refine (HJO.out _ _ ?_).mono ?_); (focus exact ⟨_, HP.out⟩); rintro e wx ⟨rfl, hbx⟩; have HBC : Hid (Below W2.heap.size W2 wx) := Lib.hid (bl_tr (by repeat' (first | with_reducible exact HBC.out | with_reducible exact Below.refl _ _ | with_reducible refine bl_al ?_ _ | with_reducible refine bl_dr ?_)) hbx); clear hbx)
    | fail)
  all_goals (
    go_wp2_with (fail)
    go_ret
    exact ⟨rfl, HB2.out.trans (HBC.out.mono HB2.out.size)⟩)
end Go.Proofs.YtllnamhgnbdkmaaGreatDoor
set_option linter.unusedVariables false
set_option linter.unusedSimpArgs false
namespace Go.Proofs.YtllnamhgnbdkmaaGreatDoor
open Go.RowKit Go.Shelf Go.Sort
theorem formP_tx {n : Gn} (h : formP n = true) : n.text.length ≤ 1000 := by
  unfold formP at h
  simp only [Bool.and_eq_true] at h
  have h1 := h.1
  split at h1
  · unfold isTx at h1
    simp only [Bool.and_eq_true, decide_eq_true_eq] at h1
    exact h1.1.2
  · unfold noTx at h1
    have := List.isEmpty_iff.1 h1
    rw [this]
    simp
theorem formP_ty {n : Gn} (h : formP n = true) (ho : n.op = 1) : (Knd.measureT 6 n.ty).isSome = true := by
  unfold formP at h
  simp only [Bool.and_eq_true] at h
  have h1 := h.2.1
  rw [if_pos ho] at h1
  exact h1
theorem line_len {l : List Gn} {i : Nat} {n : Gn} (h : OkN l i n) (hr : GnR n) : (Lib.join (partsP n) [32]).length ≤ 200000 := by
  have hf := h.few
  have hp1 := placeT_len (l := n.ins) (by omega) hr.ins
  have hp2 := placeT_len (l := n.side) (by omega) hr.side
  have hx := formP_tx h.form
  have hi : ∀ x, i64R x → (Lib.itoa x).length ≤ 30000 := fun x hx => Nat.le_trans (Lib.itoa_length_le x hx.1 hx.2) (by omega)
  have hall : ∀ x ∈ partsP n, x.length ≤ 30000 := by
    intro x hm
    unfold partsP at hm
    split at hm
    · rename_i h1
      have h2 := formP_ty h.form h1
      obtain ⟨q, hq⟩ := Option.isSome_iff_exists.1 h2
      have := Knd.textT_small 6 n.ty q hq
      simp only [List.mem_cons, List.not_mem_nil, or_false] at hm
      subst hm
      omega
    split at hm
    · simp only [List.mem_cons, List.not_mem_nil, or_false] at hm
      rcases hm with rfl | rfl | rfl <;> omega
    split at hm
    · simp only [List.mem_cons, List.not_mem_nil, or_false] at hm
      rcases hm with rfl | rfl | rfl | rfl | rfl
      · omega
      · exact hi _ hr.f0
      · exact hi _ hr.f1
      · exact hi _ hr.f2
      · exact hi _ hr.f3
    split at hm
    · simp only [List.mem_cons, List.not_mem_nil, or_false] at hm
      rcases hm with rfl | rfl | rfl | rfl | rfl | rfl
      · omega
      · exact hi _ hr.e
      · exact hi _ hr.l
      · exact hi _ hr.lt
      · split <;> simp
      · omega
    · simp only [List.mem_cons, List.not_mem_nil, or_false] at hm
      subst hm
      omega
  have := join_len [32] 30000 (partsP n) hall
  have h6 := partsP_few n
  simp at this
  have : (partsP n).length * 30001 ≤ 6 * 30001 := Nat.mul_le_mul_right _ h6
  omega
def textP (l : List Gn) : List UInt8 := l.flatMap fun n => lineP n ++ [10]
theorem textP_snoc (l : List Gn) (n : Gn) : textP (l ++ [n]) = textP l ++ lineP n ++ [10] := by
  unfold textP
  simp
def showP (l : List Gn) : List UInt8 := if (chkAll l).2 = 0 then textP l else []
theorem lineP_len {l : List Gn} {i : Nat} {n : Gn} (h : OkN l i n) (hr : GnR n) : (lineP n).length ≤ 200010 := by
  obtain ⟨o, ho, _⟩ := h.op
  have hwl : o.word.length ≤ 7 := (show ∀ o ∈ gops, o.word.length ≤ 7 by decide) o (opP_mem ho).1
  have := line_len h hr
  unfold lineP opWord
  rw [ho]
  simp only [List.length_append, List.length_cons, List.length_nil]
  omega
theorem textP_len {l : List Gn} (hok : OkG l) (hr : ∀ n ∈ l, GnR n) : ∀ j, j ≤ l.length → (textP (l.take j)).length ≤ j * 200011
  | 0, _ => by simp [textP]
  | j + 1, hj => by
    have := textP_len hok hr j (by omega)
    have hlt : j < l.length := hj
    have h1 := lineP_len (hok.each j _ (List.getElem?_eq_getElem hlt)) (hr _ (List.getElem_mem hlt))
    have e : l.take (j + 1) = l.take j ++ [l[j]] := by simp
    rw [e, textP_snoc]
    simp only [List.length_append, List.length_cons, List.length_nil]
    omega
set_option maxRecDepth 100000 in
set_option maxHeartbeats 8000000 in
theorem show_any (w : World) (S : Nat → Prop) (d : Nat) (gv : Value) (l : List Gn) (hL : GsAt w S d gv l) (hf : FewG l) (hlen : l.length ≤ 1000000) (hr : ∀ n ∈ l, GnR n) (hG : Gk w) :
    Calls Tryz.prog 15 #[.agg #[gv]] w fun e w' => e = .returned (.tuple #[.string ⟨(showP l).toArray⟩, .int .i64 (chkAll l).2]) ∧ Below w.heap.size w w' := by
  obtain ⟨GA, gc, rfl⟩ := hL.form
  obtain ⟨W0, hW0⟩ : ∃ W0, w.alloc (.cells #[.slice GA l.length gc] 27) = W0 := ⟨_, rfl⟩
  have hx : W0.heap[w.heap.size]? = some (.cells #[.slice GA l.length gc] 27 (0, 0)) := by rw [← hW0]; exact heap_alloc_new w _
  have hB0 : Below w.heap.size w W0 := by rw [← hW0]; exact bl_al (Below.refl _ _) _
  have hs0 : W0.heap.size = w.heap.size + 1 := by rw [← hW0]; simp
  have HCK := Lib.hid (checkAll_any W0 S d _ l (hL.below hB0) hf hlen (hG.below hB0))
  have HL := Lib.hid hL
  have HX := Lib.hid hx
  have HB0 := Lib.hid hB0
  have HW0 := Lib.hid hW0
  have HS0 := Lib.hid hs0
  have HR := Lib.hid hr
  have HG := Lib.hid hG
  have p0 := cellN (i := 0) hx rfl
  have pl := cell_lt hx
  clear hL hG hx hB0 hW0 hs0 hr
  go_enter Tryz.func15, Tryz.ntmps15
  go_upto_region 1 with (fail)
  rw [HW0.out]
  clear HW0
  go_wp2_with (fail)
  refine HCK.out.mono ?_
  rintro e w1 ⟨rfl, hb1⟩
  have HX1 := Lib.hid (bl_blk hb1 HX.out)
  have HB1 := Lib.hid (HB0.out.trans (hb1.mono HB0.out.size))
  have hs1 := hb1.size
  have hs1' : w.heap.size + 1 ≤ w1.heap.size := by have := HS0.out; omega
  clear hb1 p0 pl hs1 HX HB0
  by_cases hok : (chkAll l).2 = 0
  case neg =>
    have hk1 : ((chkAll l).2 == 0) = false := by simp [hok]
    have hk2 : ((chkAll l).2 != 0) = true := by simp [hok]
    have HS : Hid (showP l = []) := Lib.hid (if_neg hok)
    clear hok
    go_wp2_with (fail)
    refine bodyPost_ret (v := .tuple #[.string ⟨#[]⟩, .int .i64 (chkAll l).2]) (by simp [results, Tryz.results15, go_sem]) rfl ?_
    rw [HS.out]
    exact ⟨rfl, HB1.out⟩
  have HS : Hid (showP l = textP l) := Lib.hid (if_pos hok)
  obtain ⟨hg, he⟩ := okG hok
  have HOK := Lib.hid hg
  have h32 := hg.few
  have HCE := Lib.hid he
  rw [he]
  clear hok he hg
  have hp1 := alloc_old (o := .cells #[.pointer none, .slice none 0 0] 89) HX1.out
  have p0 := cellN (i := 0) hp1 rfl
  have pl := cell_lt hp1
  have hBl : Knd.Bld (w1.alloc (.cells #[.pointer none, .slice none 0 0] 89)) w1.heap.size (Knd.bc []) :=
    .inl ⟨Nat.le_refl _, .slice none 0 0, heap_alloc_new w1 _, World.ownsRow_nil _ _ _ _, by simp [Value.ownBlock]⟩
  have HBl := Lib.hid hBl
  have HB2 := Lib.hid (HB1.out.alloc HB1.out.size (.cells #[.pointer none, .slice none 0 0] 89))
  clear hp1 hBl
  go_wp2_with (fail)
  go_loopw [20] (fun iv wr => ∃ j : Nat, iv = .int .i64 (j : Int) ∧ j ≤ l.length ∧ Hid (Knd.Bld wr w1.heap.size (Knd.bc (textP (l.take j)))) ∧ Hid (Below w.heap.size w wr)) (fun iv _ => l.length - (intOf iv).toNat)
  case atStart => exact ⟨0, rfl, Nat.zero_le _, Lib.hid (by simpa [textP] using HBl.out), HB2⟩
  case round =>
    obtain ⟨j, rfl, hj, HBD, HBR⟩ := hrel
    have hbl := HBD.out.lt
    by_cases hlt : j < l.length
    · have hjl : (j : Int) < (l.length : Int) := by omega
      have hat := (HL.out.below HBR.out).at hlt
      have htk : l.take (j + 1) = l.take j ++ [l[j]] := by simp
      have hoN := HOK.out.each j _ (List.getElem?_eq_getElem hlt)
      have hrn := HR.out _ (List.getElem_mem hlt)
      have hll := lineP_len hoN hrn
      have hlj := line_len hoN hrn
      have htl := textP_len HOK.out HR.out j hj
      have hfw := hoN.few
      have hty := fun h1 => formP_ty hoN.form h1
      have hop : (opP l[j].op).isSome = true := by
        obtain ⟨o, ho, _⟩ := hoN.op
        rw [ho]
        rfl
      generalize l[j] = n at *
      obtain ⟨b, o, rfl, hbl2, hS, IA, SA, A, ic, sc, c, hN, a0, a1, a2, a3, a4, a5, a6, a7, a8, a9, a10, a11, a12, a13⟩ := hat
      obtain ⟨W1, hW1⟩ : ∃ W, wr.alloc (.cells #[.int .i64 n.op, .slice IA n.ins.length ic, .slice SA n.side.length sc, .string ⟨n.text.toArray⟩, .int .i64 n.ty.kind, .slice A n.ty.args.length c, .int .i64 n.f0, .int .i64 n.f1, .int .i64 n.f2, .int .i64 n.f3, .int .i64 n.e, .int .i64 n.l, .int .i64 n.lt, .bool n.acc] 83) = W := ⟨_, rfl⟩
      have hq : W1.heap[wr.heap.size]? = some (.cells #[.int .i64 n.op, .slice IA n.ins.length ic, .slice SA n.side.length sc, .string ⟨n.text.toArray⟩, .int .i64 n.ty.kind, .slice A n.ty.args.length c, .int .i64 n.f0, .int .i64 n.f1, .int .i64 n.f2, .int .i64 n.f3, .int .i64 n.e, .int .i64 n.l, .int .i64 n.lt, .bool n.acc] 83 (0, 0)) := by rw [← hW1]; exact heap_alloc_new wr _
      have hbw : Below wr.heap.size wr W1 := by rw [← hW1]; exact bl_al (Below.refl _ _) _
      have HBW := Lib.hid (HBR.out.trans (hbw.mono HBR.out.size))
      have HC := Lib.hid (line_any W1 S d n IA SA A ic sc c (hN.below hbw) (by omega) (by omega) hrn hty hop (by omega) (HG.out.below HBW.out))
      have HBD1 := Lib.hid (HBD.out.below hbw)
      have HTK := Lib.hid htk
      have hlen2 : (textP (l.take j)).length + (lineP n).length ≤ 900000000 := by
        have : j * 200011 ≤ 32 * 200011 := Nat.mul_le_mul_right _ (by omega)
        omega
      have HLN := Lib.hid hlen2
      have HW1 := Lib.hid hW1
      have hsw := hbw.size
      have y0 := cellN (i := 0) hq rfl
      have y1 := cellN (i := 1) hq rfl
      have y2 := cellN (i := 2) hq rfl
      have y3 := cellN (i := 3) hq rfl
      have y4 := cellN (i := 4) hq rfl
      have y5 := cellN (i := 5) hq rfl
      have y6 := cellN (i := 6) hq rfl
      have y7 := cellN (i := 7) hq rfl
      have y8 := cellN (i := 8) hq rfl
      have y9 := cellN (i := 9) hq rfl
      have y10 := cellN (i := 10) hq rfl
      have y11 := cellN (i := 11) hq rfl
      have y12 := cellN (i := 12) hq rfl
      have y13 := cellN (i := 13) hq rfl
      have yl := cell_lt hq
      clear hN htk hoN hrn hll hlj htl hfw hty hop hW1 hbw hq hlen2
      go_upto_region 8 with (fail)
      rw [HW1.out]
      go_wp2_with (fail)
      refine HC.out.mono ?_
      rintro e w2 ⟨rfl, hb2⟩
      have HBD2 := Lib.hid (HBD1.out.below hb2)
      have HBR2 := Lib.hid (HBW.out.trans (hb2.mono HBW.out.size))
      clear hb2 y0 y1 y2 y3 y4 y5 y6 y7 y8 y9 y10 y11 y12 y13 yl
      go_wp2_with (fail)
      refine (Knd.writeString_any w1.heap.size _ ⟨(lineP n).toArray⟩ w2 HBD2.out (by have := HLN.out; simp [Knd.bc, Lib.byteCells, ByteArray.size]; omega)).mono ?_
      rintro e w3 ⟨rfl, hBd3, hF3⟩
      have HBD3 := Lib.hid hBd3
      have HBR3 := Lib.hid (HBR2.out.trans (hF3.below.mono (by omega)))
      clear hBd3 hF3
      go_wp2_with (fail)
      refine (Knd.writeByte_any w1.heap.size _ 10 w3 HBD3.out (by have := HLN.out; simp [Knd.bc, Lib.byteCells, Lib.strCells, ByteArray.size]; omega)).mono ?_
      rintro e w4 ⟨rfl, hBd4, hF4⟩
      have HBR4 := Lib.hid (HBR3.out.trans (hF4.below.mono (by omega)))
      have HBD4 : Hid (Knd.Bld w4 w1.heap.size (Knd.bc (textP (l.take (j + 1))))) := Lib.hid (by
        rw [HTK.out, textP_snoc, Knd.bc_append, Knd.bc_append]
        exact hBd4)
      clear hBd4 hF4
      go_wp2_with (fail)
      go_roundw
      case rel => exact ⟨j + 1, by go_num, by omega, HBD4, HBR4⟩
      case measure => simp [intOf]; omega
    · obtain rfl : j = l.length := by omega
      have hjl : ¬ ((l.length : Int) < (l.length : Int)) := by omega
      have hBd := HBD.out
      rw [List.take_length] at hBd
      have HBD := Lib.hid hBd
      clear hBd
      go_wp2_with (fail)
      refine (Tryz.Builder_String_any_k w1.heap.size w1.heap.size (textP l) _ (Lib.IsBuilderF.of HBD.out) (by omega)).mono ?_
      rintro e w4 ⟨rfl, _, hb4, _⟩
      have HB4 := Lib.hid (HBR.out.trans (hb4.mono (by omega)))
      clear hb4
      go_wp2_with (fail)
      refine bodyPost_ret (v := .tuple #[.string ⟨(textP l).toArray⟩, .int .i64 0]) (by simp [results, Tryz.results15, go_sem]) rfl ?_
      rw [HS.out, HCE.out]
      exact ⟨rfl, HB4.out⟩
end Go.Proofs.YtllnamhgnbdkmaaGreatDoor
