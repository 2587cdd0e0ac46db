/-
The walk of ExprFree.
-/
import Derived.Test.YteebihdgfkmgmaaGreatDoorFrx
import Derived.Test.YteebihdgfkmgmaaGreatDoorPrt
import Derived.Test.YteebihdgfkmgmaaGreatDoorAwk
namespace Go.Proofs.YteebihdgfkmgmaaGreatDoor
open Go.RowKit Go.Sort

/-- What Free answers with, and a list of strings. -/
theorem fe_out {B : Nat} {w' : World} {e : Ending} {n : Nd} (h : FeOut B w' e n) : ∃ (A : Option Addr) (k c : Nat) (i : Int), e = .returned (.tuple #[.slice A k c, .int .i64 i]) ∧ ((i = 110 ∧ showW n = none) ∨ (i = 0 ∧ (showW n).isSome = true ∧ k = (freeL n).length ∧ w'.ownsRow B 9 1 (.slice A k c) (freeL n).length ((freeL n).map encStr))) := by
  unfold FeOut at h
  by_cases hq : (showW n).isSome = true
  · rw [if_pos hq] at h
    obtain ⟨v, he, ho⟩ := h
    obtain ⟨A, c, rfl⟩ := (StrAt.of_own ho).form
    exact ⟨A, _, c, 0, he, .inr ⟨rfl, hq, rfl, ho⟩⟩
  · rw [if_neg hq] at h
    exact ⟨none, 0, 0, 110, h, .inl ⟨rfl, by simpa using hq⟩⟩
theorem str_cell {w : World} {S : Nat → Prop} {A : Option Addr} {k c : Nat} {l : List (List UInt8)} {j : Nat} {y : List UInt8} (h : StrAt w S (.slice A k c) l) (hy : l[j]? = some y) : ∃ b o, A = some ⟨b, o, none⟩ ∧ w.cell? ⟨b, o + j, none⟩ = some (.string ⟨y.toArray⟩) := by
  rcases h with ⟨_, h0⟩ | ⟨b, o, c', he, hc, hS, hj⟩
  · rw [h0] at hy; simp at hy
  · injection he with e1 e2 e3
    exact ⟨b, o, e1, hj j y hy⟩
theorem name_short {x : List UInt8} (h : nameDoc x = true) : x.length ≤ 16 := by
  unfold nameDoc at h
  simp only [Bool.and_eq_true, decide_eq_true_eq] at h
  exact h.1.1.1.2

/-- The let that the law makes. -/
theorem let_at {w5 : World} {S : Nat → Prop} {dn de : Nat} {n e : Nd} {x : List UInt8} {A A' K K' : Option Addr} {c c' kc kc' : Nat} (hn : NdAt w5 S dn (.agg #[.string ⟨n.op.toArray⟩, .int .i64 n.int, .string ⟨n.text.toArray⟩, .int .i64 n.ty.kind, .slice A n.ty.args.length c, .slice K n.kids.length kc]) n)
    (he : NdAt w5 S de (.agg #[.string ⟨e.op.toArray⟩, .int .i64 e.int, .string ⟨e.text.toArray⟩, .int .i64 e.ty.kind, .slice A' e.ty.args.length c', .slice K' e.kids.length kc']) e) (o : Obj) :
    NdAt ((w5.alloc (.cells #[.string ⟨nameW.toArray⟩, .int .i64 0, .string ⟨x.toArray⟩, .int .i64 0, .slice none 0 0, .slice none 0 0, .string ⟨e.op.toArray⟩, .int .i64 e.int, .string ⟨e.text.toArray⟩, .int .i64 e.ty.kind, .slice A' e.ty.args.length c', .slice K' e.kids.length kc', .string ⟨n.op.toArray⟩, .int .i64 n.int, .string ⟨n.text.toArray⟩, .int .i64 n.ty.kind, .slice A n.ty.args.length c, .slice K n.kids.length kc] 27)).alloc o) (fun _ => True) (dn + de + 1) (.agg #[.string ⟨letW.toArray⟩, .int .i64 0, .string ⟨#[]⟩, .int .i64 0, .slice none 0 0, .slice (some ⟨w5.heap.size, 0, none⟩) 3 3]) (letN x e n) := by
  have hb := ((Below.refl w5.heap.size w5).alloc (Nat.le_refl _) (.cells #[.string ⟨nameW.toArray⟩, .int .i64 0, .string ⟨x.toArray⟩, .int .i64 0, .slice none 0 0, .slice none 0 0, .string ⟨e.op.toArray⟩, .int .i64 e.int, .string ⟨e.text.toArray⟩, .int .i64 e.ty.kind, .slice A' e.ty.args.length c', .slice K' e.kids.length kc', .string ⟨n.op.toArray⟩, .int .i64 n.int, .string ⟨n.text.toArray⟩, .int .i64 n.ty.kind, .slice A n.ty.args.length c, .slice K n.kids.length kc] 27)).alloc (by simp) o
  have hk := (Below.heap_alloc (w5.alloc (.cells #[.string ⟨nameW.toArray⟩, .int .i64 0, .string ⟨x.toArray⟩, .int .i64 0, .slice none 0 0, .slice none 0 0, .string ⟨e.op.toArray⟩, .int .i64 e.int, .string ⟨e.text.toArray⟩, .int .i64 e.ty.kind, .slice A' e.ty.args.length c', .slice K' e.kids.length kc', .string ⟨n.op.toArray⟩, .int .i64 n.int, .string ⟨n.text.toArray⟩, .int .i64 n.ty.kind, .slice A n.ty.args.length c, .slice K n.kids.length kc] 27)) o w5.heap.size (by simp)).trans (heap_alloc_new w5 (.cells #[.string ⟨nameW.toArray⟩, .int .i64 0, .string ⟨x.toArray⟩, .int .i64 0, .slice none 0 0, .slice none 0 0, .string ⟨e.op.toArray⟩, .int .i64 e.int, .string ⟨e.text.toArray⟩, .int .i64 e.ty.kind, .slice A' e.ty.args.length c', .slice K' e.kids.length kc', .string ⟨n.op.toArray⟩, .int .i64 n.int, .string ⟨n.text.toArray⟩, .int .i64 n.ty.kind, .slice A n.ty.args.length c, .slice K n.kids.length kc] 27))
  have hn2 := NdAt.more dn (dn + de) _ _ (by omega) ((hn.below hb).wider (S' := fun _ => True) (fun _ _ => trivial))
  have he2 := NdAt.more de (dn + de) _ _ (by omega) ((he.below hb).wider (S' := fun _ => True) (fun _ _ => trivial))
  refine ⟨none, 0, some ⟨w5.heap.size, 0, none⟩, 3, rfl, ⟨1, ty_zero _ _⟩, Nat.le_refl _, fun _ => ⟨w5.heap.size, 0, rfl, trivial, fun j a ha => ?_⟩⟩
  rcases j with _ | _ | _ | j
  · simp only [letN, Nd.kids, List.getElem?_cons_zero, Option.some.injEq] at ha
    subst ha
    have hd : ∃ d, dn + de = d + 1 := by
      cases dn with
      | zero => exact hn.elim
      | succ d => exact ⟨d + de, by omega⟩
    obtain ⟨d, hd⟩ := hd
    rw [hd]
    exact ⟨_, _, _, _, _, _, cell_block hk rfl, cell_block hk rfl, cell_block hk rfl, cell_block hk rfl, cell_block hk rfl, cell_block hk rfl, NdAt.leaf _ _ d nameW 0 x⟩
  · simp only [letN, Nd.kids, List.getElem?_cons_succ, List.getElem?_cons_zero, Option.some.injEq] at ha
    subst ha
    exact ⟨_, _, _, _, _, _, cell_block hk rfl, cell_block hk rfl, cell_block hk rfl, cell_block hk rfl, cell_block hk rfl, cell_block hk rfl, he2⟩
  · simp only [letN, Nd.kids, List.getElem?_cons_succ, List.getElem?_cons_zero, Option.some.injEq] at ha
    subst ha
    exact ⟨_, _, _, _, _, _, cell_block hk rfl, cell_block hk rfl, cell_block hk rfl, cell_block hk rfl, cell_block hk rfl, cell_block hk rfl, hn2⟩
  · simp [letN, Nd.kids] at ha

set_option maxRecDepth 100000 in
set_option maxHeartbeats 4000000 in
theorem free_walk (dn de din die : Nat) (vn ve : Value) (n e : Nd) (x : List UInt8) (w : World) (hN : NdAt w (fun k => k < w.heap.size) dn vn n) (hE : NdAt w (fun k => k < w.heap.size) de ve e) (hIN : IntN din n) (hIE : IntN die e) (hG : Gl w) :
    Calls Tryz.prog 5 #[vn, ve, .string ⟨x.toArray⟩] w fun e w' => e = .returned (.bool true) ∧ Below w.heap.size w w' := by
  have hGl := hG.lt2
  have HG := Lib.hid hG
  have HIN := Lib.hid hIN
  have HIE := Lib.hid hIE
  have HAWK := Lib.hid (fun (W : World) (h : Below w.heap.size w W) => awake_any W (hG.below h hGl))
  obtain ⟨A, c, K, kc, rfl⟩ := hN.form
  obtain ⟨A', c', K', kc', rfl⟩ := hE.form
  have HNB := Lib.hid (fun (W : World) (h : Below w.heap.size w W) => NdAt.move (S' := fun k => k < w.heap.size) (fun b hb _ => ⟨hb, fun _ => World.cell?_of_block (h.block b hb)⟩) dn _ n hN)
  have HEB := Lib.hid (fun (W : World) (h : Below w.heap.size w W) => NdAt.move (S' := fun k => k < w.heap.size) (fun b hb _ => ⟨hb, fun _ => World.cell?_of_block (h.block b hb)⟩) de _ e hE)
  clear hN hE hIN hIE hG
  have hb1 := (Below.refl w.heap.size w).alloc (Nat.le_refl _) (.cells #[.string ⟨n.op.toArray⟩, .int .i64 n.int, .string ⟨n.text.toArray⟩, .int .i64 n.ty.kind, .slice A n.ty.args.length c, .slice K n.kids.length kc] 27)
  have hs1 : (w.alloc (.cells #[.string ⟨n.op.toArray⟩, .int .i64 n.int, .string ⟨n.text.toArray⟩, .int .i64 n.ty.kind, .slice A n.ty.args.length c, .slice K n.kids.length kc] 27)).heap.size = w.heap.size + 1 := by simp
  have hb2 := hb1.alloc (by omega) (.cells #[.string ⟨e.op.toArray⟩, .int .i64 e.int, .string ⟨e.text.toArray⟩, .int .i64 e.ty.kind, .slice A' e.ty.args.length c', .slice K' e.kids.length kc'] 27)
  have HCN := Lib.hid ((Below.heap_alloc (w.alloc (.cells #[.string ⟨n.op.toArray⟩, .int .i64 n.int, .string ⟨n.text.toArray⟩, .int .i64 n.ty.kind, .slice A n.ty.args.length c, .slice K n.kids.length kc] 27)) (.cells #[.string ⟨e.op.toArray⟩, .int .i64 e.int, .string ⟨e.text.toArray⟩, .int .i64 e.ty.kind, .slice A' e.ty.args.length c', .slice K' e.kids.length kc'] 27) w.heap.size (by omega)).trans (heap_alloc_new w (.cells #[.string ⟨n.op.toArray⟩, .int .i64 n.int, .string ⟨n.text.toArray⟩, .int .i64 n.ty.kind, .slice A n.ty.args.length c, .slice K n.kids.length kc] 27)))
  have HCE : Hid (((w.alloc (.cells #[.string ⟨n.op.toArray⟩, .int .i64 n.int, .string ⟨n.text.toArray⟩, .int .i64 n.ty.kind, .slice A n.ty.args.length c, .slice K n.kids.length kc] 27)).alloc (.cells #[.string ⟨e.op.toArray⟩, .int .i64 e.int, .string ⟨e.text.toArray⟩, .int .i64 e.ty.kind, .slice A' e.ty.args.length c', .slice K' e.kids.length kc'] 27)).heap[w.heap.size + 1]? = some (.cells #[.string ⟨e.op.toArray⟩, .int .i64 e.int, .string ⟨e.text.toArray⟩, .int .i64 e.ty.kind, .slice A' e.ty.args.length c', .slice K' e.kids.length kc'] 27 (0, 0))) := heap_new_at hs1
  have hs2 : ((w.alloc (.cells #[.string ⟨n.op.toArray⟩, .int .i64 n.int, .string ⟨n.text.toArray⟩, .int .i64 n.ty.kind, .slice A n.ty.args.length c, .slice K n.kids.length kc] 27)).alloc (.cells #[.string ⟨e.op.toArray⟩, .int .i64 e.int, .string ⟨e.text.toArray⟩, .int .i64 e.ty.kind, .slice A' e.ty.args.length c', .slice K' e.kids.length kc'] 27)).heap.size = w.heap.size + 2 := by simp
  have HB0 := Lib.hid hb2
  clear hb1 hb2 hs1
  go_enter Tryz.func5, Tryz.ntmps5
  go_wp2_with (fail)
  generalize (w.alloc (.cells #[.string ⟨n.op.toArray⟩, .int .i64 n.int, .string ⟨n.text.toArray⟩, .int .i64 n.ty.kind, .slice A n.ty.args.length c, .slice K n.kids.length kc] 27)).alloc (.cells #[.string ⟨e.op.toArray⟩, .int .i64 e.int, .string ⟨e.text.toArray⟩, .int .i64 e.ty.kind, .slice A' e.ty.args.length c', .slice K' e.kids.length kc'] 27) = w0 at *
  refine (small_any dn _ n w0 (NdAt.wider (HNB.out _ HB0.out) (fun b hb => by omega))).mono ?_
  rintro e' w1 ⟨⟨b, rfl, hfn⟩, hb1⟩
  have HB1 := Lib.hid (HB0.out.trans (hb1.mono (by omega)))
  have HCN1 := Lib.hid (below_at hb1 HCN.out)
  have HCE1 := Lib.hid (below_at hb1 HCE.out)
  have hs1 := hb1.size
  clear hb1 HCN HCE
  have e0 := cell6_0 HCE1.out
  have e1 := cell6_1 HCE1.out
  have e2 := cell6_2 HCE1.out
  have e3 := cell6_3 HCE1.out
  have e4 := cell6_4 HCE1.out
  have e5 := cell6_5 HCE1.out
  have el := cell_lt HCE1.out
  cases b with
  | false =>
    go_wp2_with (fail)
    refine (HAWK.out _ HB1.out).mono ?_
    rintro e' wz ⟨rfl, hbz⟩
    go_wp2_with (fail)
    go_ret
    exact ⟨rfl, HB1.out.trans (hbz.mono (by omega))⟩
  | true =>
  have HFN := Lib.hid (hfn rfl)
  clear hfn
  go_wp2_with (fail)
  refine (small_any de _ e w1 (NdAt.wider (HEB.out _ HB1.out) (fun b hb => by omega))).mono ?_
  rintro e' w2 ⟨⟨b, rfl, hfe⟩, hb2⟩
  have HB2 := Lib.hid (HB1.out.trans (hb2.mono (by omega)))
  have HCN2 := Lib.hid (below_at hb2 HCN1.out)
  have HCE2 := Lib.hid (below_at hb2 HCE1.out)
  have hsz2 := hb2.size
  clear hb2 HCN1 HCE1 e0 e1 e2 e3 e4 e5 el
  cases b with
  | false =>
    go_wp2_with (fail)
    refine (HAWK.out _ HB2.out).mono ?_
    rintro e' wz ⟨rfl, hbz⟩
    go_wp2_with (fail)
    go_ret
    exact ⟨rfl, HB2.out.trans (hbz.mono (by omega))⟩
  | true =>
  have HFE := Lib.hid (hfe rfl)
  clear hfe
  go_wp2_with (fail)
  refine (name_d x w2).mono ?_
  rintro e' w3 ⟨rfl, hb3⟩
  have HB3 := Lib.hid (HB2.out.trans (hb3.mono (by omega)))
  have HCN3 := Lib.hid (below_at hb3 HCN2.out)
  have HCE3 := Lib.hid (below_at hb3 HCE2.out)
  have hs3 := hb3.size
  clear hb3 HCN2 HCE2
  have d0 := cell6_0 HCN3.out
  have d1 := cell6_1 HCN3.out
  have d2 := cell6_2 HCN3.out
  have d3 := cell6_3 HCN3.out
  have d4 := cell6_4 HCN3.out
  have d5 := cell6_5 HCN3.out
  have dl := cell_lt HCN3.out
  cases hnm : nameDoc x with
  | false =>
    clear hnm
    go_wp2_with (fail)
    refine (HAWK.out _ HB3.out).mono ?_
    rintro e' wz ⟨rfl, hbz⟩
    go_wp2_with (fail)
    go_ret
    exact ⟨rfl, HB3.out.trans (hbz.mono (by omega))⟩
  | true =>
  have hxl := name_short hnm
  clear hnm
  have HRN : Hid (RgN 24 n) := few_rg 24 din 60 n HIN.out HFN.out
  have HRE : Hid (RgN 24 e) := few_rg 24 die 60 e HIE.out HFE.out
  have HRO : Hid (RgN 24 (letN x e n)) := by
    refine ⟨by show (-9223372036854775808 : Int) ≤ 0; omega, by show (0 : Int) ≤ 9223372036854775807; omega, by show (0 : Nat) ≤ 1000000; omega, fun k hk => ?_⟩
    rcases List.mem_cons.1 hk with rfl | hk
    · exact ⟨by show (-9223372036854775808 : Int) ≤ 0; omega, by show (0 : Int) ≤ 9223372036854775807; omega, by show x.length ≤ 1000000; omega, fun k hk => by cases hk⟩
    · rcases List.mem_cons.1 hk with rfl | hk
      · exact few_rg 23 die 60 _ HIE.out HFE.out
      · rcases List.mem_cons.1 hk with rfl | hk
        · exact few_rg 23 din 60 _ HIN.out HFN.out
        · cases hk
  go_wp2_with (fail)
  refine (exprFree_any dn _ _ n w3 (HNB.out _ HB3.out) HRN.out (HG.out.below HB3.out hGl)).mono ?_
  rintro e' w4 ⟨h4, hb4⟩
  obtain ⟨A4, k4, c4, i4, rfl, ho4⟩ := fe_out h4
  have HO4 := Lib.hid ho4
  have HB4 := Lib.hid (HB3.out.trans (hb4.mono (by omega)))
  have HCN4 := Lib.hid (below_at hb4 HCN3.out)
  have HCE4 := Lib.hid (below_at hb4 HCE3.out)
  have hs4 := hb4.size
  clear h4 ho4 hb4 HCN3 HCE3 d0 d1 d2 d3 d4 d5 dl
  have e0 := cell6_0 HCE4.out
  have e1 := cell6_1 HCE4.out
  have e2 := cell6_2 HCE4.out
  have e3 := cell6_3 HCE4.out
  have e4 := cell6_4 HCE4.out
  have e5 := cell6_5 HCE4.out
  have el := cell_lt HCE4.out
  go_wp2_with (fail)
  refine (exprFree_any de _ _ e w4 (HEB.out _ HB4.out) HRE.out (HG.out.below HB4.out hGl)).mono ?_
  rintro e' w5 ⟨h5, hb5⟩
  obtain ⟨A5, k5, c5, i5, rfl, ho5⟩ := fe_out h5
  have HO5 := Lib.hid ho5
  have HW5 := Lib.hid hb5
  have HB5 := Lib.hid (HB4.out.trans (hb5.mono (by omega)))
  have HCN5 := Lib.hid (below_at hb5 HCN4.out)
  have HCE5 := Lib.hid (below_at hb5 HCE4.out)
  have hs5 := hb5.size
  clear h5 ho5 hb5 HCN4 HCE4 e0 e1 e2 e3 e4 e5 el
  have d0 := cell6_0 HCN5.out
  have d1 := cell6_1 HCN5.out
  have d2 := cell6_2 HCN5.out
  have d3 := cell6_3 HCN5.out
  have d4 := cell6_4 HCN5.out
  have d5 := cell6_5 HCN5.out
  have dl := cell_lt HCN5.out
  have e0 := cell6_0 HCE5.out
  have e1 := cell6_1 HCE5.out
  have e2 := cell6_2 HCE5.out
  have e3 := cell6_3 HCE5.out
  have e4 := cell6_4 HCE5.out
  have e5 := cell6_5 HCE5.out
  have el := cell_lt HCE5.out
  go_wp2_with (fail)
  have hba := ((Below.refl w5.heap.size w5).alloc (Nat.le_refl _) (.cells #[.string ⟨nameW.toArray⟩, .int .i64 0, .string ⟨x.toArray⟩, .int .i64 0, .slice none 0 0, .slice none 0 0, .string ⟨e.op.toArray⟩, .int .i64 e.int, .string ⟨e.text.toArray⟩, .int .i64 e.ty.kind, .slice A' e.ty.args.length c', .slice K' e.kids.length kc', .string ⟨n.op.toArray⟩, .int .i64 n.int, .string ⟨n.text.toArray⟩, .int .i64 n.ty.kind, .slice A n.ty.args.length c, .slice K n.kids.length kc] 27)).alloc (by simp) (.cells #[.string ⟨letW.toArray⟩, .int .i64 0, .string ⟨#[]⟩, .int .i64 0, .slice none 0 0, .slice (some ⟨w5.heap.size, 0, none⟩) 3 3] 27)
  have HOUT := Lib.hid (let_at (x := x) (HNB.out _ HB5.out) (HEB.out _ HB5.out) (.cells #[.string ⟨letW.toArray⟩, .int .i64 0, .string ⟨#[]⟩, .int .i64 0, .slice none 0 0, .slice (some ⟨w5.heap.size, 0, none⟩) 3 3] 27))
  have HCO : Hid (((w5.alloc (.cells #[.string ⟨nameW.toArray⟩, .int .i64 0, .string ⟨x.toArray⟩, .int .i64 0, .slice none 0 0, .slice none 0 0, .string ⟨e.op.toArray⟩, .int .i64 e.int, .string ⟨e.text.toArray⟩, .int .i64 e.ty.kind, .slice A' e.ty.args.length c', .slice K' e.kids.length kc', .string ⟨n.op.toArray⟩, .int .i64 n.int, .string ⟨n.text.toArray⟩, .int .i64 n.ty.kind, .slice A n.ty.args.length c, .slice K n.kids.length kc] 27)).alloc (.cells #[.string ⟨letW.toArray⟩, .int .i64 0, .string ⟨#[]⟩, .int .i64 0, .slice none 0 0, .slice (some ⟨w5.heap.size, 0, none⟩) 3 3] 27)).heap[w5.heap.size + 1]? = some (.cells #[.string ⟨letW.toArray⟩, .int .i64 0, .string ⟨#[]⟩, .int .i64 0, .slice none 0 0, .slice (some ⟨w5.heap.size, 0, none⟩) 3 3] 27 (0, 0))) := heap_new_at (by simp)
  have hsa : ((w5.alloc (.cells #[.string ⟨nameW.toArray⟩, .int .i64 0, .string ⟨x.toArray⟩, .int .i64 0, .slice none 0 0, .slice none 0 0, .string ⟨e.op.toArray⟩, .int .i64 e.int, .string ⟨e.text.toArray⟩, .int .i64 e.ty.kind, .slice A' e.ty.args.length c', .slice K' e.kids.length kc', .string ⟨n.op.toArray⟩, .int .i64 n.int, .string ⟨n.text.toArray⟩, .int .i64 n.ty.kind, .slice A n.ty.args.length c, .slice K n.kids.length kc] 27)).alloc (.cells #[.string ⟨letW.toArray⟩, .int .i64 0, .string ⟨#[]⟩, .int .i64 0, .slice none 0 0, .slice (some ⟨w5.heap.size, 0, none⟩) 3 3] 27)).heap.size = w5.heap.size + 2 := by simp
  have HBA := Lib.hid (HB5.out.trans (hba.mono (by omega)))
  have HWA := Lib.hid hba
  clear hba d0 d1 d2 d3 d4 d5 dl e0 e1 e2 e3 e4 e5 el HCN5 HCE5
  refine (exprFree_any (dn + de + 1) _ _ (letN x e n) _ HOUT.out HRO.out (HG.out.below HBA.out hGl)).mono ?_
  change ∀ e' w', FeOut ((w5.alloc (.cells #[.string ⟨nameW.toArray⟩, .int .i64 0, .string ⟨x.toArray⟩, .int .i64 0, .slice none 0 0, .slice none 0 0, .string ⟨e.op.toArray⟩, .int .i64 e.int, .string ⟨e.text.toArray⟩, .int .i64 e.ty.kind, .slice A' e.ty.args.length c', .slice K' e.kids.length kc', .string ⟨n.op.toArray⟩, .int .i64 n.int, .string ⟨n.text.toArray⟩, .int .i64 n.ty.kind, .slice A n.ty.args.length c, .slice K n.kids.length kc] 27)).alloc (.cells #[.string ⟨letW.toArray⟩, .int .i64 0, .string ⟨#[]⟩, .int .i64 0, .slice none 0 0, .slice (some ⟨w5.heap.size, 0, none⟩) 3 3] 27)).heap.size w' e' (letN x e n) ∧ Below ((w5.alloc (.cells #[.string ⟨nameW.toArray⟩, .int .i64 0, .string ⟨x.toArray⟩, .int .i64 0, .slice none 0 0, .slice none 0 0, .string ⟨e.op.toArray⟩, .int .i64 e.int, .string ⟨e.text.toArray⟩, .int .i64 e.ty.kind, .slice A' e.ty.args.length c', .slice K' e.kids.length kc', .string ⟨n.op.toArray⟩, .int .i64 n.int, .string ⟨n.text.toArray⟩, .int .i64 n.ty.kind, .slice A n.ty.args.length c, .slice K n.kids.length kc] 27)).alloc (.cells #[.string ⟨letW.toArray⟩, .int .i64 0, .string ⟨#[]⟩, .int .i64 0, .slice none 0 0, .slice (some ⟨w5.heap.size, 0, none⟩) 3 3] 27)).heap.size ((w5.alloc (.cells #[.string ⟨nameW.toArray⟩, .int .i64 0, .string ⟨x.toArray⟩, .int .i64 0, .slice none 0 0, .slice none 0 0, .string ⟨e.op.toArray⟩, .int .i64 e.int, .string ⟨e.text.toArray⟩, .int .i64 e.ty.kind, .slice A' e.ty.args.length c', .slice K' e.kids.length kc', .string ⟨n.op.toArray⟩, .int .i64 n.int, .string ⟨n.text.toArray⟩, .int .i64 n.ty.kind, .slice A n.ty.args.length c, .slice K n.kids.length kc] 27)).alloc (.cells #[.string ⟨letW.toArray⟩, .int .i64 0, .string ⟨#[]⟩, .int .i64 0, .slice none 0 0, .slice (some ⟨w5.heap.size, 0, none⟩) 3 3] 27)) w' → _
  generalize (w5.alloc (.cells #[.string ⟨nameW.toArray⟩, .int .i64 0, .string ⟨x.toArray⟩, .int .i64 0, .slice none 0 0, .slice none 0 0, .string ⟨e.op.toArray⟩, .int .i64 e.int, .string ⟨e.text.toArray⟩, .int .i64 e.ty.kind, .slice A' e.ty.args.length c', .slice K' e.kids.length kc', .string ⟨n.op.toArray⟩, .int .i64 n.int, .string ⟨n.text.toArray⟩, .int .i64 n.ty.kind, .slice A n.ty.args.length c, .slice K n.kids.length kc] 27)).alloc (.cells #[.string ⟨letW.toArray⟩, .int .i64 0, .string ⟨#[]⟩, .int .i64 0, .slice none 0 0, .slice (some ⟨w5.heap.size, 0, none⟩) 3 3] 27) = wa at *
  rintro e' w6 ⟨h6, hb6⟩
  obtain ⟨A6, k6, c6, i6, rfl, ho6⟩ := fe_out h6
  have HO6 := Lib.hid ho6
  have HB6 := Lib.hid (HBA.out.trans (hb6.mono (by omega)))
  have HW6 := Lib.hid (HWA.out.trans (hb6.mono (by omega)))
  have HCO6 := Lib.hid (below_at hb6 HCO.out)
  have HOUT6 := Lib.hid (HOUT.out.below hb6)
  have hs6 := hb6.size
  clear h6 ho6 hb6 HCO HOUT HBA
  have d0 := cell6_0 HCO6.out
  have d1 := cell6_1 HCO6.out
  have d2 := cell6_2 HCO6.out
  have d3 := cell6_3 HCO6.out
  have d4 := cell6_4 HCO6.out
  have d5 := cell6_5 HCO6.out
  have dl := cell_lt HCO6.out
  rcases HO4.out with ⟨rfl, _⟩ | ⟨rfl, hq4, rfl, ho4⟩
  · go_wp2_with (fail)
    refine (HAWK.out _ HB6.out).mono ?_
    rintro e' wz ⟨rfl, hbz⟩
    go_wp2_with (fail)
    go_ret
    exact ⟨rfl, HB6.out.trans (hbz.mono (by omega))⟩
  · rcases HO5.out with ⟨rfl, _⟩ | ⟨rfl, hq5, rfl, ho5⟩
    · go_wp2_with (fail)
      refine (HAWK.out _ HB6.out).mono ?_
      rintro e' wz ⟨rfl, hbz⟩
      go_wp2_with (fail)
      go_ret
      exact ⟨rfl, HB6.out.trans (hbz.mono (by omega))⟩
    · rcases HO6.out with ⟨rfl, hq6⟩ | ⟨rfl, hq6, rfl, ho6⟩
      · have hck := exprCheck_any (dn + de + 1) _ _ (letN x e n) w6 HOUT6.out HRO.out (HG.out.below HB6.out hGl)
        rw [hq6] at hck
        have HCK := Lib.hid hck
        clear hck hq6
        go_wp2_with (fail)
        refine HCK.out.mono ?_
        rintro e' w7 ⟨h7, hb7⟩
        obtain rfl : e' = .returned (.int .i64 110) := h7
        have HB7 := Lib.hid (HB6.out.trans (hb7.mono (by omega)))
        have hs7 := hb7.size
        clear hb7 d0 d1 d2 d3 d4 d5 dl
        go_wp2_with (fail)
        refine (HAWK.out _ HB7.out).mono ?_
        rintro e' wz ⟨rfl, hbz⟩
        go_wp2_with (fail)
        go_ret
        exact ⟨rfl, HB7.out.trans (hbz.mono (by omega))⟩
      · have HP : Hid (∀ s, s ∈ freeL (letN x e n) ↔ s ∈ freeL e ∨ (s ∈ freeL n ∧ s ≠ x)) := fun s => by
          rw [mem_freeL, mem_freeL, mem_freeL]
          exact free_let hq6 s
        have HS4 := Lib.hid (((StrAt.of_own ho4).below HW5.out).below HW6.out)
        have HS5 := Lib.hid ((StrAt.of_own ho5).below HW6.out)
        have HS6 := Lib.hid (StrAt.of_own ho6)
        have hl4 := freeL_len hq4
        have hl5 := freeL_len hq5
        have hl6 := freeL_len hq6
        clear hq4 hq5 hq6 ho4 ho5 ho6 HO4 HO5 HO6 d0 d1 d2 d3 d4 d5 dl
        generalize freeL n = l4 at *
        generalize freeL e = l5 at *
        generalize freeL (letN x e n) = l6 at *
        go_wp2_with (fail)
        have hw6 : w6.heap.size = w6.heap.size := rfl
        have H6 : Hid (∀ (y : List UInt8) (b : Bool), decide (y ∈ l6) = b → Calls Tryz.prog 27 #[.slice A6 l6.length c6, .string ⟨y.toArray⟩] w6 fun e w' => e = .returned (.bool b) ∧ w' = w6) := fun y b h => h ▸ lawhas_any _ _ l6 y w6 HS6.out (by omega)
        have H5 : Hid (∀ (y : List UInt8) (b : Bool), decide (y ∈ l5) = b → Calls Tryz.prog 27 #[.slice A5 l5.length c5, .string ⟨y.toArray⟩] w6 fun e w' => e = .returned (.bool b) ∧ w' = w6) := fun y b h => h ▸ lawhas_any _ _ l5 y w6 HS5.out (by omega)
        have H4 : Hid (∀ (y : List UInt8) (b : Bool), decide (y ∈ l4) = b → Calls Tryz.prog 27 #[.slice A4 l4.length c4, .string ⟨y.toArray⟩] w6 fun e w' => e = .returned (.bool b) ∧ w' = w6) := fun y b h => h ▸ lawhas_any _ _ l4 y w6 HS4.out (by omega)
        clear hw6
        go_loopw [81] (fun iv wr => ∃ j : Nat, iv = .int .i64 (j : Int) ∧ j ≤ l4.length ∧ wr = w6) (fun iv _ => 5000 - (intOf iv).toNat)
        case atStart => exact ⟨0, rfl, Nat.zero_le _, rfl⟩
        case round =>
          obtain ⟨j, rfl, hj, hw⟩ := hrel
          have hww := hw.symm
          subst hww
          by_cases hlt : j < l4.length
          · obtain ⟨y, hy⟩ : ∃ y, l4[j]? = some y := ⟨_, List.getElem?_eq_getElem hlt⟩
            obtain ⟨b, o, rfl, hc⟩ := str_cell HS4.out hy
            have hm4 := List.mem_of_getElem? hy
            have hp := HP.out y
            have hjl : ((j : Int) < (l4.length : Int)) := by omega
            by_cases hyx : y = x
            · have HYX := Lib.hid hyx
              subst hyx
              have g0 : (y != y) = false := by simp
              by_cases h5 : y ∈ l5
              · have HK := Lib.hid (H6.out y true (decide_eq_true (hp.2 (.inl h5))))
                have HM := Lib.hid (H5.out y true (decide_eq_true h5))
                clear hy hm4 hp h5
                go_wp2_with (fail)
                refine HK.out.mono ?_
                rintro e' w7 ⟨rfl, rfl⟩
                go_wp2_with (fail)
                refine HM.out.mono ?_
                rintro e' w7 ⟨rfl, rfl⟩
                go_wp2_with (fail)
                go_roundw
                case rel => exact ⟨j + 1, by go_num, by omega, trivial⟩
                case measure => simp [intOf]; omega
              · have HK := Lib.hid (H6.out y false (decide_eq_false fun h => (hp.1 h).elim h5 (fun h => h.2 rfl)))
                clear hy hm4 hp h5
                go_wp2_with (fail)
                refine HK.out.mono ?_
                rintro e' w7 ⟨rfl, rfl⟩
                go_wp2_with (fail)
                go_roundw
                case rel => exact ⟨j + 1, by go_num, by omega, trivial⟩
                case measure => simp [intOf]; omega
            · have g0 : (y != x) = true := by simp [hyx]
              have g1 : (y == x) = false := by simp [hyx]
              have HK := Lib.hid (H6.out y true (decide_eq_true (hp.2 (.inr ⟨hm4, hyx⟩))))
              clear hy hm4 hp hyx
              go_wp2_with (fail)
              refine HK.out.mono ?_
              rintro e' w7 ⟨rfl, rfl⟩
              go_wp2_with (fail)
              go_roundw
              case rel => exact ⟨j + 1, by go_num, by omega, trivial⟩
              case measure => simp [intOf]; omega
          · have hjl : ¬ ((j : Int) < (l4.length : Int)) := by omega
            go_wp2_with (fail)
            go_loopw [101] (fun iv wr => ∃ j : Nat, iv = .int .i64 (j : Int) ∧ j ≤ l5.length ∧ wr = w6) (fun iv _ => 5000 - (intOf iv).toNat)
            case atStart => exact ⟨0, rfl, Nat.zero_le _, rfl⟩
            case round =>
              clear hj hlt hjl
              obtain ⟨j, rfl, hj, hw⟩ := hrel
              have hww := hw.symm
              subst hww
              by_cases hlt : j < l5.length
              · obtain ⟨y, hy⟩ : ∃ y, l5[j]? = some y := ⟨_, List.getElem?_eq_getElem hlt⟩
                obtain ⟨b, o, rfl, hc⟩ := str_cell HS5.out hy
                have hm5 := List.mem_of_getElem? hy
                have hp := HP.out y
                have hjl : ((j : Int) < (l5.length : Int)) := by omega
                have HK := Lib.hid (H6.out y true (decide_eq_true (hp.2 (.inl hm5))))
                clear hy hm5 hp
                go_wp2_with (fail)
                refine HK.out.mono ?_
                rintro e' w7 ⟨rfl, rfl⟩
                go_wp2_with (fail)
                go_roundw
                case rel => exact ⟨j + 1, by go_num, by omega, trivial⟩
                case measure => simp [intOf]; omega
              · have hjl : ¬ ((j : Int) < (l5.length : Int)) := by omega
                go_wp2_with (fail)
                go_loopw [112] (fun iv wr => ∃ j : Nat, iv = .int .i64 (j : Int) ∧ j ≤ l6.length ∧ wr = w6) (fun iv _ => 5000 - (intOf iv).toNat)
                case atStart => exact ⟨0, rfl, Nat.zero_le _, rfl⟩
                case round =>
                  clear hj hlt hjl
                  obtain ⟨j, rfl, hj, hw⟩ := hrel
                  have hww := hw.symm
                  subst hww
                  by_cases hlt : j < l6.length
                  · obtain ⟨y, hy⟩ : ∃ y, l6[j]? = some y := ⟨_, List.getElem?_eq_getElem hlt⟩
                    obtain ⟨b, o, rfl, hc⟩ := str_cell HS6.out hy
                    have hp := (HP.out y).1 (List.mem_of_getElem? hy)
                    have hjl : ((j : Int) < (l6.length : Int)) := by omega
                    by_cases h4 : y ∈ l4
                    · have HK := Lib.hid (H4.out y true (decide_eq_true h4))
                      clear hy hp h4
                      go_wp2_with (fail)
                      refine HK.out.mono ?_
                      rintro e' w7 ⟨rfl, rfl⟩
                      go_wp2_with (fail)
                      go_roundw
                      case rel => exact ⟨j + 1, by go_num, by omega, trivial⟩
                      case measure => simp [intOf]; omega
                    · have HK := Lib.hid (H4.out y false (decide_eq_false h4))
                      have HM := Lib.hid (H5.out y true (decide_eq_true (hp.elim id (fun h => absurd h.1 h4))))
                      clear hy hp h4
                      go_wp2_with (fail)
                      refine HK.out.mono ?_
                      rintro e' w7 ⟨rfl, rfl⟩
                      go_wp2_with (fail)
                      refine HM.out.mono ?_
                      rintro e' w7 ⟨rfl, rfl⟩
                      go_wp2_with (fail)
                      go_roundw
                      case rel => exact ⟨j + 1, by go_num, by omega, trivial⟩
                      case measure => simp [intOf]; omega
                  · have hjl : ¬ ((j : Int) < (l6.length : Int)) := by omega
                    go_wp2_with (fail)
                    refine (HAWK.out _ HB6.out).mono ?_
                    rintro e' wz ⟨rfl, hbz⟩
                    go_wp2_with (fail)
                    go_ret
                    exact ⟨rfl, HB6.out.trans (hbz.mono (by omega))⟩
end Go.Proofs.YteebihdgfkmgmaaGreatDoor
