/-
Ported from the texts of layer 2: Kb.
-/
import Derived.Test.YtllnamhgnbdkmaaGreatDoorKa
namespace Go.Proofs.YtllnamhgnbdkmaaGreatDoor.Knd
open Go.RowKit
theorem fitW_len (n : Int) : (fitW n words).length ≤ 100 := Nat.le_trans (fitW_le n words) (by decide)
theorem rdr_two {R g : Nat} {s : ByteArray} {m : Nat} {w : World} (h : Rdr w R s m) (hg : R ≠ g) (a b : Value) : Rdr ((w.setCell ⟨g, 0, none⟩ a).setCell ⟨g, 1, none⟩ b) R s m :=
  (h.kept (Below.heap_setCell w ⟨g, 0, none⟩ a R hg)).kept (Below.heap_setCell _ ⟨g, 1, none⟩ b R hg)
theorem only_two {R : Nat} {w w' : World} (h : Only R w w') (a b : Value) : Only R w ((w'.setCell ⟨w.heap.size, 0, none⟩ a).setCell ⟨w.heap.size, 1, none⟩ b) :=
  only_far (only_far h (Nat.le_refl _) _) (Nat.le_refl _) _
theorem rdr_alloc {R : Nat} {s : ByteArray} {m : Nat} {w : World} (h : Rdr w R s m) (o : Obj) : Rdr (w.alloc o) R s m := h.kept (Below.heap_alloc w o R h.lt)
theorem only_alloc {R : Nat} {a w : World} (h : Only R a w) (o : Obj) : Only R a (w.alloc o) := h.trans (Only.of_below ((Below.refl _ _).alloc (Nat.le_refl _) _))
theorem head_get {s : ByteArray} {m : Nat} {b : UInt8} (h : (s.data.toList.drop m).head? = some b) : ∃ hm : m < s.size, s[m] = b := by
  rw [List.head?_drop] at h
  obtain ⟨hl, hb⟩ := List.getElem?_eq_some_iff.1 h
  exact ⟨by simpa using hl, hb⟩
theorem readByte_t {R : Nat} {s : ByteArray} {m : Nat} {b : UInt8} {w : World} (h : Rdr w R s m) (hs : s.size ≤ 1000000) (hh : (s.data.toList.drop m).head? = some b) :
    Calls Tryz.prog 152 #[.pointer (some ⟨R, 0, none⟩), .int .u8 b.toNat] w fun e w' => e = .returned (.bool true) ∧ Rdr w' R s (m + 1) ∧ Only R w w' := by
  obtain ⟨hm, hb⟩ := head_get hh
  exact readByte_yes R s m b w h hs hm hb
theorem readByte_f {R : Nat} {s : ByteArray} {m : Nat} {b : UInt8} {w : World} (h : Rdr w R s m) (hm : m ≤ s.size) (hh : (s.data.toList.drop m).head? ≠ some b) :
    Calls Tryz.prog 152 #[.pointer (some ⟨R, 0, none⟩), .int .u8 b.toNat] w fun e w' => e = .returned (.bool false) ∧ ∃ n, w' = w.drewN n := by
  rcases Nat.lt_or_ge m s.size with hlt | hge
  · refine readByte_no R s m b w h hlt (fun e => hh ?_)
    rw [List.head?_drop, List.getElem?_eq_getElem (by simpa using hlt)]
    exact congrArg some e
  · obtain rfl : m = s.size := by omega
    exact readByte_end R s b w h
structure TyInv (R : Nat) (s : ByteArray) (n : Nat) (x : Wd) (r k : Nat) (w w2 : World) (i : Nat) (acc : List Ty) (vs : Value) (m : Nat) (wr : World) : Prop where
  rdr : Rdr wr R s (n + m)
  only : Only R w wr
  cell : wr.heap[w.heap.size]? = some (.cells #[.int .i64 0, .slice none 0 0] 64 (0, 0))
  word : wr.heap[w2.heap.size]? = some (.cells #[.int .i64 x.kind, .int .i64 x.args, .string x.name] 182 (0, 0))
  tcell : wr.heap[w2.heap.size + 1]? = some (.cells #[.int .i64 x.kind, vs] 64 (0, 0))
  len : acc.length = i
  own : ∃ cs, wr.ownsRow (w2.heap.size + 2) 64 2 vs i cs ∧ ∀ (j : Nat) (a : Ty), acc[j]? = some a → ∃ u0 u1, cs[j * 2]? = some u0 ∧ cs[j * 2 + 1]? = some u1 ∧ TyAt wr (fun b => w2.heap.size + 2 ≤ b ∧ some b ≠ vs.ownBlock) r (.agg #[u0, u1]) a
  le : n + m ≤ s.size
  eq : readArgs (readT r) (s.data.toList.drop n) x.args.toNat 0 k [] = readArgs (readT r) (s.data.toList.drop n) (x.args.toNat - i) i m acc
  size : w2.heap.size + 2 ≤ wr.heap.size
section
variable {r A i m k q : Nat} {l : List UInt8} {x : Wd} {acc : List Ty} {a : Ty}
theorem readT_no (HT : readT (r + 1) l = readEnd x l (readArgs (readT r) l A 0 k [])) (heq : readArgs (readT r) l A 0 k [] = readArgs (readT r) l (A - i) i m acc) (hlt : i < A)
    (hh : (l.drop m).head? ≠ some (aheadB i)) : readT (r + 1) l = (m, none) := by
  obtain ⟨d, hd⟩ : ∃ d, A - i = d + 1 := ⟨A - i - 1, by omega⟩
  rw [HT, heq, hd, readArgs, if_neg hh, readEnd]
theorem readT_bad (HT : readT (r + 1) l = readEnd x l (readArgs (readT r) l A 0 k [])) (heq : readArgs (readT r) l A 0 k [] = readArgs (readT r) l (A - i) i m acc) (hlt : i < A)
    (hh : (l.drop m).head? = some (aheadB i)) (hr : readT r (l.drop (m + 1)) = (q, none)) : readT (r + 1) l = (m + 1 + q, none) := by
  obtain ⟨d, hd⟩ : ∃ d, A - i = d + 1 := ⟨A - i - 1, by omega⟩
  rw [HT, heq, hd, readArgs, if_pos hh, hr, readEnd]
theorem readArgs_on (heq : readArgs (readT r) l A 0 k [] = readArgs (readT r) l (A - i) i m acc) (hlt : i < A)
    (hh : (l.drop m).head? = some (aheadB i)) (hr : readT r (l.drop (m + 1)) = (q, some a)) : readArgs (readT r) l A 0 k [] = readArgs (readT r) l (A - (i + 1)) (i + 1) (m + 1 + q) (acc ++ [a]) := by
  obtain ⟨d, hd⟩ : ∃ d, A - i = d + 1 := ⟨A - i - 1, by omega⟩
  rw [heq, hd, readArgs, if_pos hh, hr, show A - (i + 1) = d by omega]
end
section
variable {r A i m k q : Nat} {l : List UInt8} {x : Wd} {acc : List Ty} {a : Ty}
theorem readT_end (HT : readT (r + 1) l = readEnd x l (readArgs (readT r) l A 0 k [])) (heq : readArgs (readT r) l A 0 k [] = readArgs (readT r) l (A - i) i m acc) (hlt : i = A) : readT (r + 1) l = readEnd x l (m, some acc) := by
  rw [HT, heq, hlt, Nat.sub_self, readArgs]
theorem readT_yes (h : readT (r + 1) l = readEnd x l (m, some acc)) (hp : 0 < x.args) (hh : (l.drop m).head? = some 41) : readT (r + 1) l = (m + 1, some (.mk x.kind acc)) := by
  rw [h, readEnd, if_pos hp, if_pos hh]
theorem readT_not (h : readT (r + 1) l = readEnd x l (m, some acc)) (hp : 0 < x.args) (hh : (l.drop m).head? ≠ some 41) : readT (r + 1) l = (m, none) := by
  rw [h, readEnd, if_pos hp, if_neg hh]
theorem readT_plain (h : readT (r + 1) l = readEnd x l (m, some acc)) (hp : ¬ 0 < x.args) : readT (r + 1) l = (m, some (.mk x.kind acc)) := by
  rw [h, readEnd, if_neg hp]
end
theorem ty_made {r i base : Nat} {lo : Nat} {kd : Int} {acc : List Ty} {vs : Value} {cs : List Value} {S : Nat → Prop} {wr wF : World} (hcs : wr.ownsRow base 64 2 vs i cs) (hlen : acc.length = i)
    (hargs : ∀ (j : Nat) (a : Ty), acc[j]? = some a → ∃ u0 u1, cs[j * 2]? = some u0 ∧ cs[j * 2 + 1]? = some u1 ∧ TyAt wr S r (.agg #[u0, u1]) a) (hS : ∀ b, S b → base ≤ b)
    (hlo : lo ≤ base) (hk : ∀ b, base ≤ b → b < wr.heap.size → wF.heap[b]? = wr.heap[b]?) : TyAt wF (fun b => lo ≤ b) (r + 1) (.agg #[.int .i64 kd, vs]) (.mk kd acc) := by
  have hkc : ∀ b, base ≤ b → b < wr.heap.size → ∀ o, wF.cell? ⟨b, o, none⟩ = wr.cell? ⟨b, o, none⟩ := fun b hb hl o => World.cell?_of_block (hk b hb hl)
  rcases hcs.2 with ⟨rfl, h0⟩ | ⟨g, cap, cur, rfl, hbg, hg, hnc, _⟩
  · have ha : acc.length = 0 := by omega
    refine ⟨none, 0, ?_, by show acc.length ≤ 0; omega, fun hl => ?_⟩
    · show _ = Value.agg #[.int .i64 kd, .slice none acc.length 0]
      rw [ha]
    · have hl' : 0 < acc.length := hl
      omega
  · have hgl := cell_lt hg
    refine ⟨some ⟨g, 0, none⟩, cap, ?_, by show acc.length ≤ cap; omega, fun hl => ⟨g, 0, rfl, by omega, fun j a ha => ?_⟩⟩
    · show _ = Value.agg #[.int .i64 kd, .slice (some ⟨g, 0, none⟩) acc.length cap]
      rw [hlen]
    · have ha' : acc[j]? = some a := ha
      obtain ⟨u0, u1, h0, h1, h2⟩ := hargs j a ha'
      have hjl := (List.getElem?_eq_some_iff.1 ha').1
      refine ⟨u0, u1, ?_, ?_, TyAt.move (fun b hSb hbl => ⟨by have := hS b hSb; omega, hkc b (hS b hSb) hbl⟩) _ _ _ h2⟩
      · rw [Nat.zero_add, hkc g hbg hgl, hcs.cellAt _ (by omega)]; exact h0
      · rw [Nat.zero_add, hkc g hbg hgl, hcs.cellAt _ (by omega)]; exact h1
theorem TyInv.next {R n r k i m q : Nat} {s : ByteArray} {x : Wd} {w w2 wr w4 w5 w7 : World} {acc : List Ty} {vs v5 v' u0 u1 : Value} {a : Ty} {cs : List Value} {o1 o2 : Obj} (hI : TyInv R s n x r k w w2 i acc vs m wr)
    (hRw : R < w.heap.size) (hw2 : w.heap.size < w2.heap.size)
    (hown : wr.ownsRow (w2.heap.size + 2) 64 2 vs i cs) (hargs : ∀ (j : Nat) (a : Ty), acc[j]? = some a → ∃ u0 u1, cs[j * 2]? = some u0 ∧ cs[j * 2 + 1]? = some u1 ∧ TyAt wr (fun b => w2.heap.size + 2 ≤ b ∧ some b ≠ vs.ownBlock) r (.agg #[u0, u1]) a)
    (hlt : i < x.args.toNat) (hh : ((s.data.toList.drop n).drop m).head? = some (aheadB i)) (hq : readT r ((s.data.toList.drop n).drop (m + 1)) = (q, some a)) (hnm : n + m < s.size)
    (hon4 : Only R wr w4) (hon5 : Only R w4 w5) (hr5 : Rdr w5 R s (n + m + 1 + q)) (hv5 : TyAt w5 (fun b => w4.heap.size ≤ b) r v5 a) (he : v5 = .agg #[u0, u1])
    (hg : ((w5.alloc o1).alloc o2).grownBy w7 vs.ownBlock) (hown7 : w7.ownsRow (w2.heap.size + 2) 64 2 v' (i + 1) (cs ++ [u0, u1])) (hat : v'.ownBlock = vs.ownBlock ∨ v'.ownBlock = some ((w5.alloc o1).alloc o2).heap.size) :
    TyInv R s n x r k w w2 (i + 1) (acc ++ [a]) v' (m + 1 + q) (w7.setCell ⟨w2.heap.size + 1, 1, none⟩ v') := by
  have s4 := hon4.size
  have s5 := hon5.size
  have sr := hI.size
  have hlen6 : ((w5.alloc o1).alloc o2).heap.size = w5.heap.size + 2 := by simp
  have s7 := hg.size
  have hvs : ∀ b, vs.ownBlock = some b → w2.heap.size + 2 ≤ b ∧ b < wr.heap.size := hown.lt
  have step : ∀ b, b < w5.heap.size → some b ≠ vs.ownBlock → b ≠ w2.heap.size + 1 → (w7.setCell ⟨w2.heap.size + 1, 1, none⟩ v').heap[b]? = w5.heap[b]? := fun b hb hne hT => by
    rw [Below.heap_setCell _ _ _ _ hT, hg.block b (by omega) hne, Below.heap_alloc _ _ _ (by simp <;> omega), Below.heap_alloc _ _ _ hb]
  have stepr : ∀ b, b < wr.heap.size → some b ≠ vs.ownBlock → b ≠ w2.heap.size + 1 → b ≠ R → (w7.setCell ⟨w2.heap.size + 1, 1, none⟩ v').heap[b]? = wr.heap[b]? := fun b hb hne hT hR => by
    rw [step b (by omega) hne hT, hon5.block b (by omega) (by simpa using hR), hon4.block b hb (by simpa using hR)]
  have ne1 : ∀ b, b < w2.heap.size + 2 → some b ≠ vs.ownBlock := fun b hb e => by have := (hvs b e.symm).1; omega
  have hdl := readT_le r ((s.data.toList.drop n).drop (m + 1))
  rw [hq] at hdl
  simp only [List.length_drop, Array.length_toList, ByteArray.size_data] at hdl
  refine ⟨?_, ?_, ?_, ?_, ?_, by simp [hI.len], ⟨cs ++ [u0, u1], ownsRow_setCell_below hown7 (by simp) _, ?_⟩, by omega, ?_, ?_⟩
  · rw [show n + (m + 1 + q) = n + m + 1 + q by omega]
    exact hr5.kept (step R (by omega) (ne1 R (by omega)) (by omega))
  · refine ⟨hg.os.trans (hon5.os.trans (hon4.os.trans hI.only.os)), hg.tape.trans (hon5.tape.trans (hon4.tape.trans hI.only.tape)), hg.output.trans (hon5.output.trans (hon4.output.trans hI.only.output)), ?_, fun b hb hne => ?_⟩
    · have := hI.only.size
      simp only [World.setCell, Array.size_modify]
      omega
    · rw [stepr b (by omega) (ne1 b (by omega)) (by omega) (fun e => hne (by rw [e]))]
      exact hI.only.block b hb hne
  · rw [stepr _ (by omega) (ne1 _ (by omega)) (by omega) (by omega)]; exact hI.cell
  · rw [stepr _ (by omega) (ne1 _ (by omega)) (by omega) (by omega)]; exact hI.word
  · have ht : w7.heap[w2.heap.size + 1]? = some (.cells #[.int .i64 x.kind, vs] 64 (0, 0)) := by
      rw [hg.block _ (by omega) (ne1 _ (by omega)), Below.heap_alloc _ _ _ (by simp <;> omega), Below.heap_alloc _ _ _ (by omega), hon5.block _ (by omega) (by simp <;> omega), hon4.block _ (by omega) (by simp <;> omega)]
      exact hI.tcell
    simp [World.setCell, Array.getElem?_modify, ht]
  · intro j a' hj
    have hcl : cs.length = i * 2 := hown.1
    rcases Nat.lt_or_ge j acc.length with hja | hja
    · rw [List.getElem?_append_left hja] at hj
      obtain ⟨x0, x1, h0, h1, h2⟩ := hargs j a' hj
      have hji := hI.len
      refine ⟨x0, x1, by rw [List.getElem?_append_left (by omega)]; exact h0, by rw [List.getElem?_append_left (by omega)]; exact h1, TyAt.move (fun b hS hb => ⟨⟨hS.1, fun e => ?_⟩, fun o => World.cell?_of_block (stepr b hb hS.2 (by omega) (by omega))⟩) _ _ _ h2⟩
      rcases hat with h | h
      · exact hS.2 (e.trans h)
      · rw [h, hlen6] at e; injection e; omega
    · have hji := hI.len
      have hje : j = acc.length := by
        have := (List.getElem?_eq_some_iff.1 hj).1
        simp at this
        omega
      rw [hje, List.getElem?_append_right (Nat.le_refl _), Nat.sub_self] at hj
      simp at hj
      subst hj
      subst he
      refine ⟨u0, u1, by rw [List.getElem?_append_right (by omega)]; simp [show j * 2 - cs.length = 0 by omega], by rw [List.getElem?_append_right (by omega)]; simp [show j * 2 + 1 - cs.length = 1 by omega], TyAt.move (fun b hS hb => ⟨⟨by omega, fun e => ?_⟩, fun o => World.cell?_of_block (step b hb (fun e => ?_) (by omega))⟩) _ _ _ hv5⟩
      · have := (hvs b e.symm).2
        omega
      · rcases hat with h | h
        · rw [h] at e
          have := (hvs b e.symm).2
          omega
        · rw [h, hlen6] at e; injection e; omega
  · exact readArgs_on hI.eq hlt hh hq
  · simp only [World.setCell, Array.size_modify]
    omega
theorem tb_kept {w w7 : World} {g : Nat} {o o1 o2 : Obj} {row : Option Nat} (h : w.heap[g]? = some o) (hg : ((w.alloc o1).alloc o2).grownBy w7 row) (hne : row ≠ some g) : w7.heap[g]? = some o := by
  have hl := cell_lt h
  rw [hg.block g (by simp <;> omega) (fun e => hne e.symm), Below.heap_alloc _ _ _ (by simp <;> omega), Below.heap_alloc _ _ _ hl]
  exact h
theorem words_args : ∀ x ∈ words, 0 ≤ x.args ∧ x.args ≤ 2 := by decide
theorem readT_none {r k : Nat} {l : List UInt8} (h : readW (fitW ((r : Int) + 1) words) 0 l = (k, none)) : readT (r + 1) l = (k, none) := by
  simp only [readT]
  rw [show ((r + 1 : Nat) : Int) = (r : Int) + 1 by omega, h]
theorem readT_some {r k : Nat} {l : List UInt8} {x : Wd} (h : readW (fitW ((r : Int) + 1) words) 0 l = (k, some x)) : readT (r + 1) l = readEnd x l (readArgs (readT r) l x.args.toNat 0 k []) := by
  simp only [readT]
  rw [show ((r + 1 : Nat) : Int) = (r : Int) + 1 by omega, h]
set_option maxRecDepth 100000 in
set_option maxHeartbeats 1000000 in
theorem readType_any : ∀ (r : Nat) (R : Nat) (s : ByteArray) (n : Nat) (w : World), 1 ≤ r → r ≤ 6 → Rdr w R s n → s.size ≤ 1000000 → n ≤ s.size → Glob w → 2 < R →
    Calls Tryz.prog 143 #[.pointer (some ⟨R, 0, none⟩), .int .i64 (r : Int)] w fun e w' => ∃ v, e = .returned (.tuple #[v, .bool (readT r (s.data.toList.drop n)).2.isSome]) ∧ TyOut w w' r v (readT r (s.data.toList.drop n)).2 ∧ Rdr w' R s (n + (readT r (s.data.toList.drop n)).1) ∧ Only R w w'
  | 0, _, _, _, _, h, _, _, _, _, _, _ => absurd h (by omega)
  | r + 1, R, s, n, w, _, hr6, h, hs, hn, hG, hR => by
    have IH := readType_any r
    have HIH := Lib.hid IH
    clear IH
    obtain ⟨i0, hi, hq0, hq1, hq2⟩ := info_parts info24
    have hRd := h.lt
    have hGl := hG.lt
    go_enter Tryz.func143, Tryz.ntmps143
    go_wp2_with (fail)
    refine (within_any ((r : Int) + 1) _ (hG.kept (Below.heap_alloc w _ 2 hG.lt))).mono ?_
    rintro e w1 ⟨lv, rfl, ho1, hb1⟩
    go_wp2_with (fail)
    have hr1 : Rdr w1 R s n := (h.kept (Below.heap_alloc w (.cells #[.int .i64 0, .slice none 0 0] 64) R hRd)).kept (hb1.block R (by simp <;> omega))
    refine (readWord_any R s n _ lv _ w1 hr1 hs hn ho1 (St.start _) (fitW_len _)).mono ?_
    rintro e w2 ⟨rfl, hr2, hon2⟩
    have hcell2 : w2.heap[w.heap.size]? = some (.cells #[.int .i64 0, .slice none 0 0] 64 (0, 0)) := by
      have hb1s := hb1.size
      simp at hb1s
      rw [hon2.block w.heap.size (by omega) (by simp <;> omega), hb1.block w.heap.size (by simp)]
      exact heap_alloc_new w _
    have hG2 : Glob w2 := hG.kept (by
      have hb1s := hb1.size
      simp at hb1s
      rw [hon2.block 2 (by omega) (by simp <;> omega), hb1.block 2 (by simp <;> omega)]
      exact Below.heap_alloc w _ 2 hGl)
    have hon : Only R w w2 := ((Only.of_below ((Below.refl _ w).alloc (Nat.le_refl _) _)).trans (Only.of_below hb1)).trans hon2
    have hz2 : w.heap.size < w2.heap.size := by have := hb1.size; have := hon2.size; simp at *; omega
    clear hr1 ho1 hb1 hon2 h hG
    have hkle := readW_le (s.data.toList.drop n) (fitW ((r : Int) + 1) words) 0
    have hlen : (s.data.toList.drop n).length = s.size - n := by simp
    have hmem := readW_mem (s.data.toList.drop n) (fitW ((r : Int) + 1) words) 0
    cases hrw : readW (fitW ((r : Int) + 1) words) 0 (s.data.toList.drop n) with
    | mk k o =>
    rw [hrw] at hkle hr2 hmem
    cases o with
    | none =>
      have HT := Lib.hid (readT_none hrw)
      clear hlen hmem hrw
      have d0 := cell2_0 hcell2
      have d1 := cell2_1 hcell2
      have e0 := cell3_f hcell2 0
      have e1 := cell3_f hcell2 1
      simp only [Option.getD_none, Option.isSome_none, wdVal, zeroWd]
      go_wp2_with (fail)
      refine bodyPost_ret (v := .tuple #[.agg #[.int .i64 0, .slice none 0 0], .bool false]) (by simp [results, Tryz.results143, go_sem, d0, d1, hz2]) rfl ?_
      rw [HT.out]
      exact ⟨_, rfl, rfl, rdr_alloc (rdr_two hr2 (Nat.ne_of_lt hRd) _ _) _, only_alloc (only_two hon _ _) _⟩
    | some x =>
      have HT := Lib.hid (readT_some hrw)
      obtain ⟨hxw, hxf⟩ := List.mem_filter.1 (hmem x rfl)
      have hxa := words_args x hxw
      simp only at hkle hr2
      clear hmem hrw
      have d0 := cell2_0 hcell2
      have d1 := cell2_1 hcell2
      have e0 := cell3_f hcell2 0
      have e1 := cell3_f hcell2 1
      simp only [Option.getD_some, Option.isSome_some, wdVal]
      go_wp2_with (fail)
      have hG0 : ∀ wr : World, Only R w wr → Glob wr := fun wr ho => hG2.kept (by rw [ho.block 2 hGl (by simp <;> omega), hon.block 2 hGl (by simp <;> omega)])
      go_loopw [27] (fun c wr => ∃ (i : Nat) (acc : List Ty) (vs : Value) (m : Nat), c = .int .i64 i ∧ (i : Int) ≤ x.args ∧ TyInv R s n x r k w w2 i acc vs m wr) (fun c _ => 10 - (intOf c).toNat)
      case atStart =>
        refine ⟨0, [], .slice none 0 0, k, rfl, by omega, rdr_alloc (rdr_alloc hr2 _) _, only_alloc (only_alloc hon _) _, ?_, ?_, ?_, rfl, ⟨[], World.ownsRow_nil _ _ _ _, fun j a h => by simp at h⟩, by omega, by simp, by simp⟩
        · rw [Below.heap_alloc _ _ _ (by simp <;> omega), Below.heap_alloc _ _ _ hz2]; exact hcell2
        · rw [Below.heap_alloc _ _ _ (by simp)]; exact heap_alloc_new w2 _
        · exact (by simpa using heap_alloc_new (w2.alloc _) _)
      case round =>
        obtain ⟨i, acc, vs, m, rfl, hix, hI⟩ := hrel
        have hr := hI.rdr
        have hf0 := cell2_0 hI.cell
        have hf1 := cell2_1 hI.cell
        have hf2 := cell3_f hI.cell 0
        have hf3 := cell3_f hI.cell 1
        have ht0 := cell2_0 hI.tcell
        have ht1 := cell2_1 hI.tcell
        have hw0 := cell3_1 hI.word
        have hIh := Lib.hid hI
        have honr := hI.only
        have hlem := hI.le
        clear hI d0 d1 e0 e1
        by_cases hlt : (i : Int) < x.args
        · have hi2 : i < 2 := by omega
          have hah := ahead_at i hi2
          by_cases hh : (s.data.toList.drop (n + m)).head? = some (aheadB i)
          · have HH := Lib.hid hh
            clear hh
            go_wp2_with (fail)
            refine (readByte_t hr hs HH.out).mono ?_
            rintro e w4 ⟨rfl, hr4, hon4⟩
            have hcb : w.heap.size < wr.heap.size := cell_lt hIh.out.cell
            have hwb : w2.heap.size < wr.heap.size := cell_lt hIh.out.word
            have hg0 := (hon4.block _ hcb (by simp <;> omega)).trans hIh.out.cell
            have hg1 := (hon4.block _ hwb (by simp <;> omega)).trans hIh.out.word
            have hg2 := (hon4.block _ (cell_lt hIh.out.tcell) (by simp <;> omega)).trans hIh.out.tcell
            have hnm := (head_get HH.out).1
            have hr1 : 1 ≤ r := by
              simp at hxf
              omega
            clear hf0 hf1 hf2 hf3 ht0 ht1 hw0 hr
            go_wp2_with (fail)
            have hIHr := HIH.out R s (n + m + 1) w4 hr1 (by omega) hr4 hs (by omega) (hG0 _ (honr.trans hon4)) hR
            cases hq : readT r (s.data.toList.drop (n + m + 1)) with
            | mk q o =>
            rw [hq] at hIHr
            have hdd : (s.data.toList.drop n).drop (m + 1) = s.data.toList.drop (n + m + 1) := by rw [List.drop_drop, Nat.add_assoc]
            have hHd : ((s.data.toList.drop n).drop m).head? = some (aheadB i) := by rw [List.drop_drop]; exact HH.out
            cases o with
            | none =>
              have hE : readT (r + 1) (s.data.toList.drop n) = (m + 1 + q, none) := readT_bad HT.out hIh.out.eq (by omega) hHd (by rw [hdd]; exact hq)
              have HE := Lib.hid hE
              clear hE hdd hHd hq
              refine hIHr.mono ?_
              rintro e w5 ⟨v5, rfl, hv5, hr5, hon5⟩
              obtain rfl : v5 = .agg #[.int .i64 0, .slice none 0 0] := hv5
              have hs4 := hon4.size
              have hf5 := (hon5.block _ (Nat.lt_of_lt_of_le hcb hs4) (by simp <;> omega)).trans hg0
              have hcb5 := cell_lt hf5
              have f0 := cell2_0 hf5
              have f1 := cell2_1 hf5
              have f2 := cell3_f hf5 0
              have f3 := cell3_f hf5 1
              go_wp2_with (fail)
              refine bodyPost_ret (v := .tuple #[.agg #[.int .i64 0, .slice none 0 0], .bool false]) (by simp [results, Tryz.results143, go_sem, f0, f1, hcb5]) rfl ?_
              rw [HE.out]
              exact ⟨_, rfl, rfl, by rw [show n + (m + 1 + q) = n + m + 1 + q by omega]; exact rdr_alloc (rdr_two hr5 (Nat.ne_of_lt hRd) _ _) _, only_alloc (only_two ((honr.trans hon4).trans hon5) _ _) _⟩
            | some a =>
              refine hIHr.mono ?_
              rintro e w5 ⟨v5, rfl, hv5, hr5, hon5⟩
              obtain ⟨A5, c5, rfl⟩ := TyAt.form hv5
              have hs4 := hon4.size
              have hs5 := hon5.size
              have hf5 := (hon5.block _ (Nat.lt_of_lt_of_le (cell_lt hIh.out.tcell) hs4) (by simp <;> omega)).trans hg2
              obtain ⟨cs, hcs, hargs⟩ := hIh.out.own
              have hvne : vs.ownBlock = none ∨ vs.ownBlock ≠ some R := .inr (fun e => by have := (hcs.lt R e).1; omega)
              have hcs5 := (hcs.kept hon4 hvne).kept hon5 hvne
              have hsz := hIh.out.size
              have htb5 := cell_lt hf5
              have HQ := Lib.hid hq
              have HDD := Lib.hid hdd
              have HHD := Lib.hid hHd
              have HV5 := Lib.hid hv5
              clear hq hdd hHd hv5
              have f0 := cell2_0 hf5
              have f1 := cell2_1 hf5
              have f2 := cell3_f hf5 0
              have f3 := cell3_f hf5 1
              go_wp2_with (at_builtin; refine wpList_append_own_at _ rfl (.tmp 47) (.tmp 49) 62 rfl (w2.heap.size + 2) 64 i0 (.agg #[.int .i64 0, .slice none 0 0]) 2 32 Tryz.underlying62 hi hq0 hq1 hq2 rfl (by decide) vs i cs rfl ((hcs5.alloc _).alloc _) ⟨w5.heap.size + 1, 0, none⟩ 1 1 [.int .i64 a.kind, .slice A5 a.args.length c5] rfl rfl (cell_two_new _ _ _ _ _ (by simp)) (two_one _ _ _ _) (by unfold maxLen; omega) (by omega) (by simp <;> omega) ?_; intro v' w7 hown7 hgrow7 _ hat7; obtain ⟨g7, cap7, rfl, hg7⟩ := own_form hown7 (by omega); have ht7 := tb_kept hf5 hgrow7 (fun e => by have := (hcs.lt _ e).1; omega); have t0 := cell2_0 ht7; have t1 := cell2_1 ht7; have t2 := cell3_f ht7 0; have t3 := cell3_f ht7 1)
              go_roundw
              case rel =>
                exact ⟨i + 1, acc ++ [a], _, m + 1 + q, by go_num, by omega, TyInv.next hIh.out hRd hz2 hcs hargs (by omega) HHD.out (by rw [HDD.out]; exact HQ.out) hnm hon4 hon5 hr5 HV5.out rfl hgrow7 hown7 hat7⟩
              case measure => simp [intOf]; omega
          · have HH := Lib.hid hh
            clear hh
            go_wp2_with (fail)
            refine (readByte_f hr hlem HH.out).mono ?_
            rintro e w4 ⟨rfl, nq, rfl⟩
            have hE : readT (r + 1) (s.data.toList.drop n) = (m, none) := readT_no HT.out hIh.out.eq (by omega) (by rw [List.drop_drop]; exact HH.out)
            have HE := Lib.hid hE
            clear hE
            go_wp2_with (fail)
            refine bodyPost_ret (v := .tuple #[.agg #[.int .i64 0, .slice none 0 0], .bool false]) (by simp [results, Tryz.results143, go_sem, hf0, hf1]) rfl ?_
            rw [HE.out]
            exact ⟨_, rfl, rfl, rdr_two (w := wr.drewN nq) hr (Nat.ne_of_lt hRd) _ _, only_two (honr.drewN nq) _ _⟩
        · have hlt' : i = x.args.toNat := by omega
          have hG2' := hG0 wr honr
          have hE0 := readT_end HT.out hIh.out.eq hlt'
          have hip : 0 < x.args → 0 < i := by omega
          have hiz : ¬ 0 < x.args → i = 0 := by omega
          clear hlt'
          have HE0 := Lib.hid hE0
          have hdd : (s.data.toList.drop n).drop m = s.data.toList.drop (n + m) := List.drop_drop ..
          have HDD := Lib.hid hdd
          obtain ⟨cs, hcs, hargs⟩ := hIh.out.own
          have HARGS := Lib.hid hargs
          have hcb : w.heap.size < wr.heap.size := cell_lt hIh.out.cell
          have hsz := hIh.out.size
          clear hE0 hdd hargs
          by_cases hpos : 0 < x.args
          · have hgt : decide (0 < x.args) = true := by simp [hpos]
            by_cases hh : (s.data.toList.drop (n + m)).head? = some 41
            · have HH := Lib.hid hh
              have HE := Lib.hid (readT_yes HE0.out hpos (by rw [HDD.out]; exact hh))
              clear hh
              have HVS : Hid _ := own_form hcs (hip hpos)
              obtain ⟨g, cap, rfl, hgb, hgl, hgc⟩ := HVS.out
              go_wp2_with (fail)
              refine (readByte_t (b := 41) hr hs HH.out).mono ?_
              rintro e w4 ⟨rfl, hr4, hon4⟩
              have hg0 := (hon4.block _ hcb (by simp <;> omega)).trans hIh.out.cell
              have hg2 := (hon4.block _ (cell_lt hIh.out.tcell) (by simp <;> omega)).trans hIh.out.tcell
              clear hf0 hf1 hf2 hf3 ht0 ht1 hw0 hr
              have f0 := cell2_0 hg0
              have f1 := cell2_1 hg0
              have f2 := cell3_f hg0 0
              have f3 := cell3_f hg0 1
              have t0 := cell2_0 hg2
              have t1 := cell2_1 hg2
              go_wp2_with (fail)
              refine bodyPost_ret (v := .tuple #[.agg #[.int .i64 x.kind, .slice (some ⟨g, 0, none⟩) i cap], .bool true]) (by simp [results, Tryz.results143, go_sem, f0, f1]) rfl ?_
              rw [HE.out]
              exact ⟨_, rfl, ty_made hcs hIh.out.len HARGS.out (fun b h => h.1) (by omega) (fun b hb hl => by
                rw [Below.heap_setCell _ _ _ _ (by show b ≠ w.heap.size; omega), Below.heap_setCell _ _ _ _ (by show b ≠ w.heap.size; omega), hon4.block b hl (by simp <;> omega)]), rdr_two hr4 (Nat.ne_of_lt hRd) _ _, only_two (honr.trans hon4) _ _⟩
            · have HH := Lib.hid hh
              have HE := Lib.hid (readT_not HE0.out hpos (by rw [HDD.out]; exact hh))
              clear hh
              go_wp2_with (fail)
              refine (readByte_f (b := 41) hr hlem HH.out).mono ?_
              rintro e w4 ⟨rfl, nq, rfl⟩
              go_wp2_with (fail)
              refine bodyPost_ret (v := .tuple #[.agg #[.int .i64 0, .slice none 0 0], .bool false]) (by simp [results, Tryz.results143, go_sem, hf0, hf1]) rfl ?_
              rw [HE.out]
              exact ⟨_, rfl, rfl, rdr_two (w := wr.drewN nq) hr (Nat.ne_of_lt hRd) _ _, only_two (honr.drewN nq) _ _⟩
          · have hgt : decide (0 < x.args) = false := by simp [hpos]
            have HE := Lib.hid (readT_plain HE0.out hpos)
            have hvs : ∃ A c, vs = .slice A 0 c := by
              rcases hcs.2 with ⟨h, _⟩ | ⟨g, cap, cur, h, _⟩
              · exact ⟨_, _, h⟩
              · exact ⟨some ⟨g, 0, none⟩, cap, by rw [h, hiz hpos]⟩
            obtain ⟨A, c, rfl⟩ := hvs
            go_wp2_with (fail)
            refine bodyPost_ret (v := .tuple #[.agg #[.int .i64 x.kind, .slice A 0 c], .bool true]) (by simp [results, Tryz.results143, go_sem, hf0, hf1]) rfl ?_
            rw [HE.out]
            exact ⟨_, rfl, ty_made hcs hIh.out.len HARGS.out (fun b h => h.1) (by omega) (fun b hb hl => by
              rw [Below.heap_setCell _ _ _ _ (by show b ≠ w.heap.size; omega), Below.heap_setCell _ _ _ _ (by show b ≠ w.heap.size; omega)]), rdr_two hr (Nat.ne_of_lt hRd) _ _, only_two honr _ _⟩
end Go.Proofs.YtllnamhgnbdkmaaGreatDoor.Knd
