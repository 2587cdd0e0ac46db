import Derived.Test.YtaecndmncpfpfaaGreatDoorCz
import Derived.Laws.AppendOwn
set_option linter.unusedVariables false
set_option linter.unusedSimpArgs false
namespace Go.Proofs.YtaecndmncpfpfaaGreatDoor
open Go.RowKit
theorem yI {b o : Nat} {a w' : World} {v : Value} (h : Below a.heap.size a w') (hv : a.cell? ⟨b, o, none⟩ = some v) : w'.cell? ⟨b, o, none⟩ = some v := (h.cell (p := ⟨b, o, none⟩) (World.block_lt_of_cell? a _ hv)).trans hv
theorem calloc1 {w : World} {a : Addr} {v : Value} {o : Obj} (h : w.cell? a = some v) : (w.alloc o).drew.cell? a = some v := zW h
theorem calloc2 {w : World} {a : Addr} {v : Value} {o o' : Obj} (h : w.cell? a = some v) : ((w.alloc o).alloc o').drew.cell? a = some v := zW (w := w.alloc o) (zW h)
theorem own_rowA {w : World} {B g m : Nat} (h : w.heap[g]? = some (.cells (rowA m m).toArray 34 (0, 0))) (hB : B ≤ g) (hm : m ≤ 64) : w.ownsRow B 34 2 (.slice (some ⟨g, 0, none⟩) m m) m (rowA m m) :=
 ⟨rowA_length (Nat.le_refl _), .inr ⟨g, m, (rowA m m).toArray, rfl, hB, h, Nat.le_refl _, by unfold maxLen; omega, by rw [List.size_toArray, rowA_length (Nat.le_refl _)], by rw [List.toList_toArray]; exact List.take_of_length_le (by rw [rowA_length (Nat.le_refl _)]; exact Nat.le_refl _)⟩⟩
theorem two_cells {w : World} {g : Nat} {a b : Value} {t : TypeId} (h : w.heap[g]? = some (.cells #[a, b] t (0, 0))) : ∀ j u, [a, b][j]? = some u → w.cell? ((⟨g, 0, none⟩ : Addr).add j) = some u := by
 intro j u hj
 match j, hj with
 | 0, hj => simp at hj; subst hj; simp [Addr.add, World.cell?, h]
 | 1, hj => simp at hj; subst hj; simp [Addr.add, World.cell?, h]
 | j + 2, hj => simp at hj
theorem two_ones {a : Int} {A : Option Addr} {n c : Nat} : ∀ u ∈ [Value.int .i64 a, Value.slice A n c], u.oneCell' = true := by
 intro u hu
 simp at hu
 rcases hu with rfl | rfl <;> rfl
theorem grown_cell {w w' : World} {g B b o : Nat} {n c : Nat} {v : Value} (hg : w.grownBy w' (Value.slice (some ⟨g, 0, none⟩) n c).ownBlock) (h1 : B ≤ g) (hv : w.cell? ⟨b, o, none⟩ = some v) (hb : b < B) : w'.cell? ⟨b, o, none⟩ = some v :=
 hg.cell hv (fun e => by have : b = g := Option.some.inj e; omega)
theorem rowA_get {m j : Nat} (h : j < m) : (rowA m m)[j * 2]? = some (.int .i64 (-1)) ∧ (rowA m m)[j * 2 + 1]? = some (.slice none 0 0) := by
 have e : rowA m m = (List.replicate m cA).flatten := by simp [rowA]
 rw [e, rep_get cA rfl m _ (by omega), rep_get cA rfl m _ (by omega), show j * 2 % 2 = 0 by omega, show (j * 2 + 1) % 2 = 1 by omega]
 exact ⟨rfl, rfl⟩
theorem fa_list {w9 : World} {S' : Nat → Prop} {B m B8 : Nat} {v9 : Value} (h : w9.ownsRow B 34 2 v9 (m + 1) (rowA m m ++ [.int .i64 7, .slice (some ⟨B8, 0, none⟩) 1 1])) (h8 : w9.heap[B8]? = some (.cells #[.int .i64 (-1), .slice none 0 0] 34 (0, 0)))
    (hS : ∀ b, B ≤ b → b < w9.heap.size → S' b) (hS8 : S' B8) : ∃ FA fk, v9 = .slice FA (m + 1) fk ∧ m + 1 ≤ fk ∧ Knd.yE w9 S' 2 FA (List.replicate m mA ++ [tL]) := by
 have hc := fun g hg => h.cells (g := g) hg
 rcases h.2 with ⟨_, h0⟩ | ⟨g, cap, cur, rfl, hBg, hg, hnc, _⟩
 · omega
 · refine ⟨_, cap, rfl, hnc, fun _ => ⟨g, 0, rfl, hS g hBg (zC hg), fun j a ha => ?_⟩⟩
   have had : ∀ k, (⟨g, 0, none⟩ : Addr).add k = ⟨g, k, none⟩ := fun k => by unfold Addr.add; split <;> simp_all
   have hrl := rowA_length (Nat.le_refl m)
   rcases Nat.lt_or_ge j m with hj | hj
   · rw [List.getElem?_append_left (by simpa using hj), List.getElem?_replicate, if_pos hj] at ha
     obtain rfl : mA = a := Option.some.inj ha
     obtain ⟨g0, g1⟩ := rowA_get hj
     have c0 := hc g rfl (j * 2) _ (by rw [List.getElem?_append_left (by omega)]; exact g0)
     have c1 := hc g rfl (j * 2 + 1) _ (by rw [List.getElem?_append_left (by omega)]; exact g1)
     rw [had] at c0 c1
     rw [Nat.zero_add]
     exact ⟨_, _, c0, c1, zY _ _ _ _⟩
   · have hjm : j = m := by
       have := (List.getElem?_eq_some_iff.1 ha).1
       simp at this
       omega
     subst hjm
     rw [List.getElem?_append_right (by simp), List.length_replicate, Nat.sub_self] at ha
     obtain rfl : tL = a := Option.some.inj ha
     have c0 := hc g rfl (j * 2) (.int .i64 7) (by rw [List.getElem?_append_right (by omega), hrl, Nat.sub_self]; rfl)
     have c1 := hc g rfl (j * 2 + 1) (.slice (some ⟨B8, 0, none⟩) 1 1) (by rw [List.getElem?_append_right (by omega), hrl, Nat.add_sub_cancel_left]; rfl)
     rw [had] at c0 c1
     rw [Nat.zero_add]
     exact ⟨_, _, c0, c1, ty_arg1 (d := 0) h8 hS8⟩
theorem step_append_any2 {P : Program} {w : World} {ops : Array Oper} {o : Oper} {a : Act} {K : Act → World → Prop} {Q : Exit → Act → World → Prop} {E : Prop} (hgd : o.guard = none) (s x : Operand) (t : TypeId)
    (ho : o.op = .call { callee := .builtin .append, args := #[s, x], argTypes := #[t, t] })
    (base : Nat) (e : TypeId) (i : TypeInfo) (z : Value) (size bytes : Nat) (ht : P.underlying t = some (.slice e)) (hi : P.info? e = some i) (hz : i.zero = some z)
    (hsize : i.size = size) (hby : i.bytes = bytes) (hzs : z.cells.size = size) (hsz : 0 < size)
    (v : Value) (n : Nat) (xs : List Value) (hs : a.eval s = v) (hown : w.ownsRow base e size v n xs)
    (ad : Addr) (m c : Nat) (news : List Value) (hx : a.eval x = .slice (some ad) m c) (hl : news.length = m * size) (hnews : ∀ j u, news[j]? = some u → w.cell? (ad.add j) = some u) (h1 : ∀ u ∈ news, u.oneCell' = true)
    (h63 : n + m ≤ maxLen) (hbytes : (n + m) * bytes ≤ 140737488355328) (hbase : base ≤ w.heap.size)
    (h : ∀ v' w', w'.ownsRow base e size v' (n + m) (xs ++ news) → w.grownBy w' v.ownBlock → (v' = .slice none 0 0 ↔ v = .slice none 0 0 ∧ m = 0) → K (a.put o.dst v') w') :
    if Region.wanted o (yielded ops a.tmps) = true then Oper.wp P o a w K Q else E := by
 have hw : Region.wanted o (yielded ops a.tmps) = true := by simp [Region.wanted, hgd]
 rw [if_pos hw]
 exact wp_append_own w s x t ho base e i z size bytes ht hi hz hsize hby hzs hsz v n xs hs hown ad m c news hx hl hnews h1 h63 hbytes hbase h
set_option maxRecDepth 100000 in
set_option maxHeartbeats 4000000 in
theorem formOfAny_list (S : Nat → Prop) (n : Nd) (dn : Nat) (nv : Value) (w : World) (hn : NdAt w S (dn + 1) nv n) (ho8 : n.op = [108, 105, 115, 116]) (hk64 : n.kids.length ≤ 64) :
    Calls Tryz.prog 100 #[nv] w fun e w' => FaOut w w' S e (List.replicate n.kids.length mA ++ [tL]) ∧ Below w.heap.size w w' := by
 have HO8 := Lib.hid ho8
 clear ho8
 obtain ⟨A, c, K, k, rfl, hty, hlk, hkc⟩ := hn
 have HTY := Lib.hid hty
 clear hty
 obtain ⟨W0, hW0⟩ : ∃ W0, (((((((((w.alloc (.cells #[.string ⟨n.op.toArray⟩, .int .i64 n.int, .string ⟨n.text.toArray⟩, .int .i64 n.ty.kind, .slice A n.ty.args.length c, .slice K n.kids.length k] 41)).alloc (.cells #[.int .i64 1, .slice none 0 0] 34)).alloc (.cells #[.int .i64 2, .slice none 0 0] 34)).alloc (.cells #[.int .i64 1, .slice none 0 0] 34)).alloc (.cells #[.int .i64 2, .slice none 0 0] 34)).alloc (.cells #[.int .i64 (-1), .slice none 0 0] 34)).alloc (.cells #[.int .i64 (-2), .slice none 0 0] 34)).alloc (.cells #[.int .i64 (-1), .slice none 0 0] 34)).alloc (.cells #[.int .i64 (-2), .slice none 0 0] 34)) = W0 := ⟨_, rfl⟩
 have hB0 : Below w.heap.size w W0 := by
  rw [← hW0]
  repeat' (first | exact Below.refl _ _ | refine Below.alloc ?_ ?_ _ | (simp; done) | (simp; omega))
 have hs0 : W0.heap.size = w.heap.size + 9 := by rw [← hW0]; simp
 have b0 : W0.heap[w.heap.size]? = some (.cells #[.string ⟨n.op.toArray⟩, .int .i64 n.int, .string ⟨n.text.toArray⟩, .int .i64 n.ty.kind, .slice A n.ty.args.length c, .slice K n.kids.length k] 41 (0, 0)) := by
  rw [← hW0]
  exact zE (zE (zE (zE (zE (zE (zE (zE (heap_alloc_new w _))))))))
 have b3 : W0.heap[w.heap.size + 1 + 1 + 1]? = some (.cells #[.int .i64 1, .slice none 0 0] 34 (0, 0)) := by
  rw [← hW0]
  exact (zE (zE (zE (zE (zE (show ((((w.alloc (.cells #[.string ⟨n.op.toArray⟩, .int .i64 n.int, .string ⟨n.text.toArray⟩, .int .i64 n.ty.kind, .slice A n.ty.args.length c, .slice K n.kids.length k] 41)).alloc (.cells #[.int .i64 1, .slice none 0 0] 34)).alloc (.cells #[.int .i64 2, .slice none 0 0] 34)).alloc (.cells #[.int .i64 1, .slice none 0 0] 34)).heap[w.heap.size + 1 + 1 + 1]? = some (.cells #[.int .i64 1, .slice none 0 0] 34 (0, 0)) from by simpa using heap_alloc_new (((w.alloc (.cells #[.string ⟨n.op.toArray⟩, .int .i64 n.int, .string ⟨n.text.toArray⟩, .int .i64 n.ty.kind, .slice A n.ty.args.length c, .slice K n.kids.length k] 41)).alloc (.cells #[.int .i64 1, .slice none 0 0] 34)).alloc (.cells #[.int .i64 2, .slice none 0 0] 34)) (.cells #[.int .i64 1, .slice none 0 0] 34)))))))
 have b4 : W0.heap[w.heap.size + 1 + 1 + 1 + 1]? = some (.cells #[.int .i64 2, .slice none 0 0] 34 (0, 0)) := by
  rw [← hW0]
  exact (zE (zE (zE (zE (show (((((w.alloc (.cells #[.string ⟨n.op.toArray⟩, .int .i64 n.int, .string ⟨n.text.toArray⟩, .int .i64 n.ty.kind, .slice A n.ty.args.length c, .slice K n.kids.length k] 41)).alloc (.cells #[.int .i64 1, .slice none 0 0] 34)).alloc (.cells #[.int .i64 2, .slice none 0 0] 34)).alloc (.cells #[.int .i64 1, .slice none 0 0] 34)).alloc (.cells #[.int .i64 2, .slice none 0 0] 34)).heap[w.heap.size + 1 + 1 + 1 + 1]? = some (.cells #[.int .i64 2, .slice none 0 0] 34 (0, 0)) from by simpa using heap_alloc_new ((((w.alloc (.cells #[.string ⟨n.op.toArray⟩, .int .i64 n.int, .string ⟨n.text.toArray⟩, .int .i64 n.ty.kind, .slice A n.ty.args.length c, .slice K n.kids.length k] 41)).alloc (.cells #[.int .i64 1, .slice none 0 0] 34)).alloc (.cells #[.int .i64 2, .slice none 0 0] 34)).alloc (.cells #[.int .i64 1, .slice none 0 0] 34)) (.cells #[.int .i64 2, .slice none 0 0] 34))))))
 have b7 : W0.heap[w.heap.size + 1 + 1 + 1 + 1 + 1 + 1 + 1]? = some (.cells #[.int .i64 (-1), .slice none 0 0] 34 (0, 0)) := by
  rw [← hW0]
  exact (zE (show ((((((((w.alloc (.cells #[.string ⟨n.op.toArray⟩, .int .i64 n.int, .string ⟨n.text.toArray⟩, .int .i64 n.ty.kind, .slice A n.ty.args.length c, .slice K n.kids.length k] 41)).alloc (.cells #[.int .i64 1, .slice none 0 0] 34)).alloc (.cells #[.int .i64 2, .slice none 0 0] 34)).alloc (.cells #[.int .i64 1, .slice none 0 0] 34)).alloc (.cells #[.int .i64 2, .slice none 0 0] 34)).alloc (.cells #[.int .i64 (-1), .slice none 0 0] 34)).alloc (.cells #[.int .i64 (-2), .slice none 0 0] 34)).alloc (.cells #[.int .i64 (-1), .slice none 0 0] 34)).heap[w.heap.size + 1 + 1 + 1 + 1 + 1 + 1 + 1]? = some (.cells #[.int .i64 (-1), .slice none 0 0] 34 (0, 0)) from by simpa using heap_alloc_new (((((((w.alloc (.cells #[.string ⟨n.op.toArray⟩, .int .i64 n.int, .string ⟨n.text.toArray⟩, .int .i64 n.ty.kind, .slice A n.ty.args.length c, .slice K n.kids.length k] 41)).alloc (.cells #[.int .i64 1, .slice none 0 0] 34)).alloc (.cells #[.int .i64 2, .slice none 0 0] 34)).alloc (.cells #[.int .i64 1, .slice none 0 0] 34)).alloc (.cells #[.int .i64 2, .slice none 0 0] 34)).alloc (.cells #[.int .i64 (-1), .slice none 0 0] 34)).alloc (.cells #[.int .i64 (-2), .slice none 0 0] 34)) (.cells #[.int .i64 (-1), .slice none 0 0] 34)))
 have b8 : W0.heap[w.heap.size + 1 + 1 + 1 + 1 + 1 + 1 + 1 + 1]? = some (.cells #[.int .i64 (-2), .slice none 0 0] 34 (0, 0)) := by
  rw [← hW0]
  exact (show (((((((((w.alloc (.cells #[.string ⟨n.op.toArray⟩, .int .i64 n.int, .string ⟨n.text.toArray⟩, .int .i64 n.ty.kind, .slice A n.ty.args.length c, .slice K n.kids.length k] 41)).alloc (.cells #[.int .i64 1, .slice none 0 0] 34)).alloc (.cells #[.int .i64 2, .slice none 0 0] 34)).alloc (.cells #[.int .i64 1, .slice none 0 0] 34)).alloc (.cells #[.int .i64 2, .slice none 0 0] 34)).alloc (.cells #[.int .i64 (-1), .slice none 0 0] 34)).alloc (.cells #[.int .i64 (-2), .slice none 0 0] 34)).alloc (.cells #[.int .i64 (-1), .slice none 0 0] 34)).alloc (.cells #[.int .i64 (-2), .slice none 0 0] 34)).heap[w.heap.size + 1 + 1 + 1 + 1 + 1 + 1 + 1 + 1]? = some (.cells #[.int .i64 (-2), .slice none 0 0] 34 (0, 0)) from by simpa using heap_alloc_new ((((((((w.alloc (.cells #[.string ⟨n.op.toArray⟩, .int .i64 n.int, .string ⟨n.text.toArray⟩, .int .i64 n.ty.kind, .slice A n.ty.args.length c, .slice K n.kids.length k] 41)).alloc (.cells #[.int .i64 1, .slice none 0 0] 34)).alloc (.cells #[.int .i64 2, .slice none 0 0] 34)).alloc (.cells #[.int .i64 1, .slice none 0 0] 34)).alloc (.cells #[.int .i64 2, .slice none 0 0] 34)).alloc (.cells #[.int .i64 (-1), .slice none 0 0] 34)).alloc (.cells #[.int .i64 (-2), .slice none 0 0] 34)).alloc (.cells #[.int .i64 (-1), .slice none 0 0] 34)) (.cells #[.int .i64 (-2), .slice none 0 0] 34))
 have HW0 := Lib.hid hW0
 clear hW0
 go_enter Tryz.func100, Tryz.ntmps100
 go_upto_region 3 with (go_at_call 96; refine (ofX _ _ _ _ _).mono ?_; rintro e wa ⟨rfl, rfl⟩)
 rw [HW0.out]
 clear HW0
 go_cut [7, 8, 9] from 14 to 23 (fun s7 s8 s9 wx => HeadR W0 wx s7 s8 s9)
 case first =>
  refine headR_wp _ _ _ _ _ _ 3 W0 _ b7 b8 ?_
  intro u7 u8 u9 u14 u15 u16 u17 u18 u19 u20 u21 u22 u23 wx hh
  unfold FrR
  dsimp only
  go_wp2_with (fail)
  go_meet
  exact hh
 obtain ⟨hbx, ⟨u7, ⟨q7, rfl, hq7, hx7, _⟩, ⟨B7, rfl, hl7, hB7, _⟩⟩, ⟨u8, ⟨q8, rfl, hq8, hx8, _⟩, ⟨B8, rfl, hl8, hB8, _⟩⟩, ⟨u9, ⟨q9, rfl, hq9, hx9, _⟩, ⟨B9, rfl, hl9, hB9, _⟩⟩⟩ := hcut
 have hsc := hbx.size
 have HBC := Lib.hid (hB0.trans (hbx.mono (by omega)))
 have n0 : wc.cell? ⟨w.heap.size, 0, none⟩ = some (.string ⟨n.op.toArray⟩) := zD (i := 0) ((hbx.block w.heap.size (by omega)).trans b0) rfl
 have n3 : wc.cell? ⟨w.heap.size, 3, none⟩ = some (.int .i64 n.ty.kind) := zD (i := 3) ((hbx.block w.heap.size (by omega)).trans b0) rfl
 have n4 : wc.cell? ⟨w.heap.size, 4, none⟩ = some (.slice A n.ty.args.length c) := zD (i := 4) ((hbx.block w.heap.size (by omega)).trans b0) rfl
 have cT0 : wc.cell? ⟨w.heap.size + 1 + 1 + 1, 0, none⟩ = some (.int .i64 1) := zD (i := 0) ((hbx.block _ (by omega)).trans b3) rfl
 have cT1 : wc.cell? ⟨w.heap.size + 1 + 1 + 1, 1, none⟩ = some (.slice none 0 0) := zD (i := 1) ((hbx.block _ (by omega)).trans b3) rfl
 have cN0 : wc.cell? ⟨w.heap.size + 1 + 1 + 1 + 1, 0, none⟩ = some (.int .i64 2) := zD (i := 0) ((hbx.block _ (by omega)).trans b4) rfl
 have cN1 : wc.cell? ⟨w.heap.size + 1 + 1 + 1 + 1, 1, none⟩ = some (.slice none 0 0) := zD (i := 1) ((hbx.block _ (by omega)).trans b4) rfl
 have cA0 : wc.cell? ⟨w.heap.size + 1 + 1 + 1 + 1 + 1 + 1 + 1, 0, none⟩ = some (.int .i64 (-1)) := zD (i := 0) ((hbx.block _ (by omega)).trans b7) rfl
 have cA1 : wc.cell? ⟨w.heap.size + 1 + 1 + 1 + 1 + 1 + 1 + 1, 1, none⟩ = some (.slice none 0 0) := zD (i := 1) ((hbx.block _ (by omega)).trans b7) rfl
 have cB0 : wc.cell? ⟨w.heap.size + 1 + 1 + 1 + 1 + 1 + 1 + 1 + 1, 0, none⟩ = some (.int .i64 (-2)) := zD (i := 0) ((hbx.block _ (by omega)).trans b8) rfl
 have cB1 : wc.cell? ⟨w.heap.size + 1 + 1 + 1 + 1 + 1 + 1 + 1 + 1, 1, none⟩ = some (.slice none 0 0) := zD (i := 1) ((hbx.block _ (by omega)).trans b8) rfl
 have cP0 : wc.cell? ⟨q7, 0, none⟩ = some (.int .i64 6) := zD (i := 0) hx7 rfl
 have cP1 : wc.cell? ⟨q7, 1, none⟩ = some (.slice (some ⟨B7, 0, none⟩) 2 2) := zD (i := 1) hx7 rfl
 have cL0 : wc.cell? ⟨q8, 0, none⟩ = some (.int .i64 7) := zD (i := 0) hx8 rfl
 have cL1 : wc.cell? ⟨q8, 1, none⟩ = some (.slice (some ⟨B8, 0, none⟩) 1 1) := zD (i := 1) hx8 rfl
 have cO0 : wc.cell? ⟨q9, 0, none⟩ = some (.int .i64 9) := zD (i := 0) hx9 rfl
 have cO1 : wc.cell? ⟨q9, 1, none⟩ = some (.slice (some ⟨B9, 0, none⟩) 1 1) := zD (i := 1) hx9 rfl
 have HBB := Lib.hid (And.intro hB7 (And.intro hB8 hB9))
 have hlB := And.intro (zC hB7) (And.intro (zC hB8) (zC hB9))
 have n5 : wc.cell? ⟨w.heap.size, 5, none⟩ = some (.slice K n.kids.length k) := zD (i := 5) ((hbx.block w.heap.size (by omega)).trans b0) rfl
 clear hbx hx7 hx8 hx9 hB7 hB8 hB9 b0 b3 b4 b7 b8 hB0
 unfold ptrB
 have f0 : (n.op == [110, 105, 108]) = false := by rw [HO8.out]; decide
 have f1 : (n.op == [110, 111, 110, 101]) = false := by rw [HO8.out]; decide
 have f2 : (n.op == [101, 113]) = false := by rw [HO8.out]; decide
 have f3 : (n.op == [108, 116]) = false := by rw [HO8.out]; decide
 have f4 : (n.op == [105, 102]) = false := by rw [HO8.out]; decide
 have f5 : (n.op == [112, 97, 105, 114]) = false := by rw [HO8.out]; decide
 have f6 : (n.op == [102, 105, 114, 115, 116]) = false := by rw [HO8.out]; decide
 have f7 : (n.op == [115, 101, 99, 111, 110, 100]) = false := by rw [HO8.out]; decide
 have e8 : (n.op == [108, 105, 115, 116]) = true := by rw [HO8.out]; decide
 have hkk : (0 : Int) ≤ (n.kids.length : Int) := by omega
 clear cT0 cT1 cN0 cN1 cB0 cB1 cP0 cP1 cO0 cO1 n3 n4
 obtain ⟨i0, hi, hq0, hq1, hq2⟩ := info_parts Tryz.infoTy
 obtain ⟨m, hm⟩ : ∃ m, m = n.kids.length := ⟨_, rfl⟩
 rw [← hm] at hk64 n5 hlk ⊢
 have HM := Lib.hid hm
 clear hm
 obtain ⟨X, hX⟩ : ∃ X : Obj, X = .cells #[.int .i64 (-1), .slice none 0 0] 34 := ⟨_, rfl⟩
 obtain ⟨Y, hY⟩ : ∃ Y : Obj, Y = .cells #[.int .i64 7, .slice (some ⟨B8, 0, none⟩) 1 1] 34 := ⟨_, rfl⟩
 subst hX
 subst hY
 go_upto_region 22 with (fail)
 have HCa := Lib.hid (repeat_any m wc.heap.size 0 1 hk64 (wc.alloc (.cells #[.int .i64 (-1), .slice none 0 0] 34)).drew (zD (i := 0) (heap_alloc_new wc (.cells #[.int .i64 (-1), .slice none 0 0] 34)) rfl) (zD (i := 1) (heap_alloc_new wc (.cells #[.int .i64 (-1), .slice none 0 0] 34)) rfl))
 have HCb := Lib.hid (repeat_any m wc.heap.size 0 1 hk64 ((wc.alloc (.cells #[.int .i64 (-1), .slice none 0 0] 34)).alloc (.cells #[.int .i64 7, .slice (some ⟨B8, 0, none⟩) 1 1] 34)).drew (zD (i := 0) (zE (heap_alloc_new wc (.cells #[.int .i64 (-1), .slice none 0 0] 34))) rfl) (zD (i := 1) (zE (heap_alloc_new wc (.cells #[.int .i64 (-1), .slice none 0 0] 34))) rfl))
 have hXc : ((wc.alloc (.cells #[.int .i64 7, .slice (some ⟨B8, 0, none⟩) 1 1] 34)).alloc (.cells #[.int .i64 (-1), .slice none 0 0] 34)).heap[wc.heap.size + 1]? = some (.cells #[.int .i64 (-1), .slice none 0 0] 34 (0, 0)) := by simpa using heap_alloc_new (wc.alloc (.cells #[.int .i64 7, .slice (some ⟨B8, 0, none⟩) 1 1] 34)) (.cells #[.int .i64 (-1), .slice none 0 0] 34)
 have HCc := Lib.hid (repeat_any m (wc.heap.size + 1) 0 1 hk64 ((wc.alloc (.cells #[.int .i64 7, .slice (some ⟨B8, 0, none⟩) 1 1] 34)).alloc (.cells #[.int .i64 (-1), .slice none 0 0] 34)).drew (zD (i := 0) hXc rfl) (zD (i := 1) hXc rfl))
 have hYb0 : ((wc.alloc (.cells #[.int .i64 (-1), .slice none 0 0] 34)).alloc (.cells #[.int .i64 7, .slice (some ⟨B8, 0, none⟩) 1 1] 34)).heap[wc.heap.size + 1]? = some (.cells #[.int .i64 7, .slice (some ⟨B8, 0, none⟩) 1 1] 34 (0, 0)) := by simpa using heap_alloc_new (wc.alloc (.cells #[.int .i64 (-1), .slice none 0 0] 34)) (.cells #[.int .i64 7, .slice (some ⟨B8, 0, none⟩) 1 1] 34)
 have HYb : Hid (((wc.alloc (.cells #[.int .i64 (-1), .slice none 0 0] 34)).alloc (.cells #[.int .i64 7, .slice (some ⟨B8, 0, none⟩) 1 1] 34)).drew.heap[wc.heap.size + 1]? = some (.cells #[.int .i64 7, .slice (some ⟨B8, 0, none⟩) 1 1] 34 (0, 0))) := Lib.hid hYb0
 have HYc : Hid (((wc.alloc (.cells #[.int .i64 7, .slice (some ⟨B8, 0, none⟩) 1 1] 34)).alloc (.cells #[.int .i64 (-1), .slice none 0 0] 34)).drew.heap[wc.heap.size]? = some (.cells #[.int .i64 7, .slice (some ⟨B8, 0, none⟩) 1 1] 34 (0, 0))) := Lib.hid (zE (heap_alloc_new wc (.cells #[.int .i64 7, .slice (some ⟨B8, 0, none⟩) 1 1] 34)))
 have HBa : Hid (Below wc.heap.size wc (wc.alloc (.cells #[.int .i64 (-1), .slice none 0 0] 34)).drew) := Lib.hid (((Below.refl _ wc).alloc (Nat.le_refl _) _).drew)
 have HBb : Hid (Below wc.heap.size wc ((wc.alloc (.cells #[.int .i64 (-1), .slice none 0 0] 34)).alloc (.cells #[.int .i64 7, .slice (some ⟨B8, 0, none⟩) 1 1] 34)).drew) := Lib.hid ((((Below.refl _ wc).alloc (Nat.le_refl _) _).alloc (by simp) _).drew)
 have HBc : Hid (Below wc.heap.size wc ((wc.alloc (.cells #[.int .i64 7, .slice (some ⟨B8, 0, none⟩) 1 1] 34)).alloc (.cells #[.int .i64 (-1), .slice none 0 0] 34)).drew) := Lib.hid ((((Below.refl _ wc).alloc (Nat.le_refl _) _).alloc (by simp) _).drew)
 clear hXc
 go_region_held3 (fun w' => w'.cell? ⟨w.heap.size + 1 + 1 + 1 + 1 + 1 + 1 + 1, 0, none⟩ = some (.int .i64 (-1)) ∧ w'.cell? ⟨w.heap.size + 1 + 1 + 1 + 1 + 1 + 1 + 1, 1, none⟩ = some (.slice none 0 0) ∧ w'.cell? ⟨w.heap.size, 5, none⟩ = some (.slice K m k) ∧ w'.cell? ⟨q8, 0, none⟩ = some (.int .i64 7) ∧ w'.cell? ⟨q8, 1, none⟩ = some (.slice (some ⟨B8, 0, none⟩) 1 1))
  ((refine ⟨?_, ?_, ?_, ?_, ?_⟩ <;> (repeat' (first | with_reducible assumption | with_reducible refine zX ?_ | with_reducible refine zW ?_))))
  (first
    | (go_at_call 137; (with_reducible refine HCa.out.mono ?_); rintro e w3 ⟨g, rfl, hg, hrow, hb⟩; have y0 : w3.cell? ⟨w.heap.size + 1 + 1 + 1 + 1 + 1 + 1 + 1, 0, none⟩ = some (.int .i64 (-1)) := yI hb (calloc1 cA0); have y1 : w3.cell? ⟨w.heap.size + 1 + 1 + 1 + 1 + 1 + 1 + 1, 1, none⟩ = some (.slice none 0 0) := yI hb (calloc1 cA1); have y2 : w3.cell? ⟨w.heap.size, 5, none⟩ = some (.slice K m k) := yI hb (calloc1 n5); have y3 : w3.cell? ⟨q8, 0, none⟩ = some (.int .i64 7) := yI hb (calloc1 cL0); have y4 : w3.cell? ⟨q8, 1, none⟩ = some (.slice (some ⟨B8, 0, none⟩) 1 1) := yI hb (calloc1 cL1); have HB3 : Hid (Below wc.heap.size wc w3) := Lib.hid (HBa.out.trans (hb.mono HBa.out.size)); have HRW := Lib.hid hrow; have hg1 : wc.heap.size ≤ g := Nat.le_trans HBa.out.size hg; have HOW : Hid ((w3.alloc (.cells #[.int .i64 7, .slice (some ⟨B8, 0, none⟩) 1 1] 34)).ownsRow wc.heap.size 34 2 (.slice (some ⟨g, 0, none⟩) m m) m (rowA m m)) := Lib.hid (own_rowA (zE hrow) hg1 (by omega)); have HNW : Hid (∀ j u, [Value.int .i64 7, .slice (some ⟨B8, 0, none⟩) 1 1][j]? = some u → (w3.alloc (.cells #[.int .i64 7, .slice (some ⟨B8, 0, none⟩) 1 1] 34)).cell? ((⟨w3.heap.size, 0, none⟩ : Addr).add j) = some u) := Lib.hid (cell_two_new w3 _ _ _ _ rfl); clear hrow hb)
    | (go_at_call 137; (with_reducible refine HCb.out.mono ?_); rintro e w3 ⟨g, rfl, hg, hrow, hb⟩; have y0 : w3.cell? ⟨w.heap.size + 1 + 1 + 1 + 1 + 1 + 1 + 1, 0, none⟩ = some (.int .i64 (-1)) := yI hb (calloc2 cA0); have y1 : w3.cell? ⟨w.heap.size + 1 + 1 + 1 + 1 + 1 + 1 + 1, 1, none⟩ = some (.slice none 0 0) := yI hb (calloc2 cA1); have y2 : w3.cell? ⟨w.heap.size, 5, none⟩ = some (.slice K m k) := yI hb (calloc2 n5); have y3 : w3.cell? ⟨q8, 0, none⟩ = some (.int .i64 7) := yI hb (calloc2 cL0); have y4 : w3.cell? ⟨q8, 1, none⟩ = some (.slice (some ⟨B8, 0, none⟩) 1 1) := yI hb (calloc2 cL1); have HB3 : Hid (Below wc.heap.size wc w3) := Lib.hid (HBb.out.trans (hb.mono HBb.out.size)); have HRW := Lib.hid hrow; have hg1 : wc.heap.size ≤ g := Nat.le_trans HBb.out.size hg; have HOW : Hid (w3.ownsRow wc.heap.size 34 2 (.slice (some ⟨g, 0, none⟩) m m) m (rowA m m)) := Lib.hid (own_rowA hrow hg1 (by omega)); have HNW : Hid (∀ j u, [Value.int .i64 7, .slice (some ⟨B8, 0, none⟩) 1 1][j]? = some u → w3.cell? ((⟨wc.heap.size + 1, 0, none⟩ : Addr).add j) = some u) := Lib.hid (two_cells ((hb.block _ (zC HYb.out)).trans HYb.out)); clear hrow hb)
    | (go_at_call 137; (with_reducible refine HCc.out.mono ?_); rintro e w3 ⟨g, rfl, hg, hrow, hb⟩; have y0 : w3.cell? ⟨w.heap.size + 1 + 1 + 1 + 1 + 1 + 1 + 1, 0, none⟩ = some (.int .i64 (-1)) := yI hb (calloc2 cA0); have y1 : w3.cell? ⟨w.heap.size + 1 + 1 + 1 + 1 + 1 + 1 + 1, 1, none⟩ = some (.slice none 0 0) := yI hb (calloc2 cA1); have y2 : w3.cell? ⟨w.heap.size, 5, none⟩ = some (.slice K m k) := yI hb (calloc2 n5); have y3 : w3.cell? ⟨q8, 0, none⟩ = some (.int .i64 7) := yI hb (calloc2 cL0); have y4 : w3.cell? ⟨q8, 1, none⟩ = some (.slice (some ⟨B8, 0, none⟩) 1 1) := yI hb (calloc2 cL1); have HB3 : Hid (Below wc.heap.size wc w3) := Lib.hid (HBc.out.trans (hb.mono HBc.out.size)); have HRW := Lib.hid hrow; have hg1 : wc.heap.size ≤ g := Nat.le_trans HBc.out.size hg; have HOW : Hid (w3.ownsRow wc.heap.size 34 2 (.slice (some ⟨g, 0, none⟩) m m) m (rowA m m)) := Lib.hid (own_rowA hrow hg1 (by omega)); have HNW : Hid (∀ j u, [Value.int .i64 7, .slice (some ⟨B8, 0, none⟩) 1 1][j]? = some u → w3.cell? ((⟨wc.heap.size, 0, none⟩ : Addr).add j) = some u) := Lib.hid (two_cells ((hb.block _ (zC HYc.out)).trans HYc.out)); clear hrow hb)
    | (refine step_append_any2 (by rfl) _ _ _ (by rfl) wc.heap.size 34 i0 (.agg #[.int .i64 0, .slice none 0 0]) 2 32 Tryz.underlying168 hi hq0 hq1 hq2 rfl (by decide) (.slice (some ⟨g, 0, none⟩) m m) m (rowA m m) (by rfl) HOW.out _ 1 1 [.int .i64 7, .slice (some ⟨B8, 0, none⟩) 1 1] (by rfl) (by rfl) HNW.out two_ones (by unfold maxLen; omega) (by omega) (by have := HB3.out.size; first | omega | (simp; omega)) ?_; intro v9 w9 hown9 hg9 _; have HO9 := Lib.hid hown9; have HB9 : Hid (Below wc.heap.size wc w9) := Lib.hid (by first | exact HB3.out.grown hg9 HB3.out.size (fun kk hkk => (HOW.out.lt kk hkk).1) | exact (HB3.out.alloc HB3.out.size _).grown hg9 (by simp; have := HB3.out.size; omega) (fun kk hkk => (HOW.out.lt kk hkk).1)); have s0 : w9.cell? ⟨w.heap.size + 1 + 1 + 1 + 1 + 1 + 1 + 1, 0, none⟩ = some (.int .i64 (-1)) := grown_cell hg9 hg1 (by first | exact y0 | exact zW y0) (World.block_lt_of_cell? wc _ cA0); have s1 : w9.cell? ⟨w.heap.size + 1 + 1 + 1 + 1 + 1 + 1 + 1, 1, none⟩ = some (.slice none 0 0) := grown_cell hg9 hg1 (by first | exact y1 | exact zW y1) (World.block_lt_of_cell? wc _ cA1); have s2 : w9.cell? ⟨w.heap.size, 5, none⟩ = some (.slice K m k) := grown_cell hg9 hg1 (by first | exact y2 | exact zW y2) (World.block_lt_of_cell? wc _ n5); have s3 : w9.cell? ⟨q8, 0, none⟩ = some (.int .i64 7) := grown_cell hg9 hg1 (by first | exact y3 | exact zW y3) (World.block_lt_of_cell? wc _ cL0); have s4 : w9.cell? ⟨q8, 1, none⟩ = some (.slice (some ⟨B8, 0, none⟩) 1 1) := grown_cell hg9 hg1 (by first | exact y4 | exact zW y4) (World.block_lt_of_cell? wc _ cL1); clear hown9 hg9)
    | fail)
 all_goals
  go_wp2_with (fail)
  refine bodyPost_ret (v := v9) (by simp [results, Tryz.results100, go_sem]) rfl ?_
  have hs9 := HB9.out.size
  have hsw := HBC.out.size
  obtain ⟨FA, fk, rfl, hfk, hargs⟩ := fa_list (S' := fun b => S b ∨ (w.heap.size ≤ b ∧ b < w9.heap.size)) HO9.out ((HB9.out.block B8 hlB.2.1).trans HBB.out.2.1) (fun b h1 h2 => .inr ⟨by omega, h2⟩) (.inr ⟨by omega, by omega⟩)
  rw [← HM.out]
  exact ⟨⟨FA, fk, 2, by rw [List.length_append, List.length_replicate]; rfl, by rw [List.length_append, List.length_replicate]; exact hfk, hargs⟩, HBC.out.trans (HB9.out.mono hsw)⟩
