/-
The writer of package expr: its builder, which is embedded: copyCheck, WriteString, WriteByte, Len, String.
-/
import Derived.Test.YteebihdgfkmgmaaGreatDoorKd
import Derived.Test.YteebihdgfkmgmaaGreatDoorRc1
import Derived.Lib.UnsafeStr
namespace Go.Proofs.YteebihdgfkmgmaaGreatDoor
open Go.RowKit
open Knd (BFr)

/-- The writer in block b holds these bytes, and has counted so many nodes. -/
def WrAt (w : World) (b : Nat) (p : Value) (bs : List UInt8) (k : Int) : Prop :=
  ∃ v, w.heap[b]? = some (.cells #[p, v, .int .i64 k] 105 (0, 0)) ∧ w.ownsRow b 5 1 v bs.length (bcl bs) ∧ v.ownBlock ≠ some b
def Wr (w : World) (b : Nat) (bs : List UInt8) (k : Int) : Prop := WrAt w b (.pointer none) bs k ∨ WrAt w b (.pointer (some ⟨b, 0, none⟩)) bs k

theorem Wr.at {w : World} {b : Nat} {bs : List UInt8} {k : Int} (h : Wr w b bs k) : ∃ p, WrAt w b p bs k := h.elim (fun x => ⟨_, x⟩) (fun x => ⟨_, x⟩)
theorem Wr.lt {w : World} {b : Nat} {bs : List UInt8} {k : Int} (h : Wr w b bs k) : b < w.heap.size := by
  obtain ⟨p, v, hb, _⟩ := h.at
  exact cell_lt hb
theorem WrAt.kept {w w' : World} {b : Nat} {p : Value} {bs : List UInt8} {k : Int} (h : WrAt w b p bs k) (hb : Below w.heap.size w w') : WrAt w' b p bs k := by
  obtain ⟨v, h2, h3, h4⟩ := h
  have hg : w.grownBy w' none := ⟨hb.os, hb.tape, hb.output, hb.size, fun k hk _ => hb.block k hk⟩
  exact ⟨v, (hb.block b (cell_lt h2)).trans h2, h3.kept hg (by cases hv : v.ownBlock <;> simp), h4⟩
theorem Wr.below {w w' : World} {b : Nat} {bs : List UInt8} {k : Int} (h : Wr w b bs k) (hb : Below w.heap.size w w') : Wr w' b bs k := h.elim (fun x => .inl (x.kept hb)) (fun x => .inr (x.kept hb))

theorem wr_set {w : World} {b : Nat} {p : Value} {bs : List UInt8} {k : Int} (h : WrAt w b p bs k) (q : Value) : WrAt (w.setCell ⟨b, 0, none⟩ q) b q bs k := by
  obtain ⟨v, h2, h3, h4⟩ := h
  refine ⟨v, by simp [World.setCell, Array.getElem?_modify, h2], ?_, h4⟩
  exact h3.kept (row := some b) ⟨rfl, rfl, rfl, by simp [World.setCell], fun k _ hk => Below.heap_setCell _ _ _ _ (fun e => hk (by simp [e]))⟩ (Or.inr h4)
theorem wr_count {w : World} {b : Nat} {p : Value} {bs : List UInt8} {k : Int} (h : WrAt w b p bs k) (j : Int) : WrAt (w.setCell ⟨b, 2, none⟩ (.int .i64 j)) b p bs j := by
  obtain ⟨v, h2, h3, h4⟩ := h
  refine ⟨v, by simp [World.setCell, Array.getElem?_modify, h2], ?_, h4⟩
  exact h3.kept (row := some b) ⟨rfl, rfl, rfl, by simp [World.setCell], fun k _ hk => Below.heap_setCell _ _ _ _ (fun e => hk (by simp [e]))⟩ (Or.inr h4)
theorem Wr.count {w : World} {b : Nat} {bs : List UInt8} {k : Int} (h : Wr w b bs k) (j : Int) : Wr (w.setCell ⟨b, 2, none⟩ (.int .i64 j)) b bs j := h.elim (fun x => .inl (wr_count x j)) (fun x => .inr (wr_count x j))

theorem own_ne {w : World} {B b : Nat} {v : Value} {n : Nat} {xs : List Value} {cs : Array Value} {fr : Nat × Nat} (hown : w.ownsRow B 5 1 v n xs) (hb : w.heap[b]? = some (.cells cs 105 fr)) : v.ownBlock ≠ some b := by
  intro h
  obtain ⟨c, fz, e⟩ := Knd.own_kind hown b h
  rw [hb] at e
  injection e with e
  injection e with _ e _
  exact absurd e (by decide)
theorem wr_put {w : World} {b : Nat} {p v v' : Value} {bs : List UInt8} {k : Int} (hb : w.heap[b]? = some (.cells #[p, v, .int .i64 k] 105 (0, 0))) (hown : w.ownsRow b 5 1 v' bs.length (bcl bs)) : WrAt (w.setCell ⟨b, 1, none⟩ v') b p bs k := by
  have hne := own_ne hown hb
  refine ⟨v', by simp [World.setCell, Array.getElem?_modify, hb], ?_, hne⟩
  exact hown.kept (row := some b) ⟨rfl, rfl, rfl, by simp [World.setCell], fun k _ hk => Below.heap_setCell _ _ _ _ (fun e => hk (by simp [e]))⟩ (Or.inr hne)

theorem lies61 : liesAt Tryz.prog Tryz.prog.depth 105 (3 / Tryz.prog.cellsOf 105) 0 103 1 = true := by kernel_rfl

set_option maxRecDepth 100000 in
theorem wrCheck_new (b : Nat) (v u : Value) (w : World) (h : w.heap[b]? = some (.cells #[.pointer none, v, u] 105 (0, 0))) :
    Calls Tryz.prog 162 #[.pointer (some ⟨b, 0, none⟩)] w fun e w' => e = .returned (.tuple #[]) ∧ w' = w.setCell ⟨b, 0, none⟩ (.pointer (some ⟨b, 0, none⟩)) := by
  have c0 := cell3_0 h
  have f0 := cell3_f h 0
  have hsh : w.shape? b = some (105, 3) := by simp [World.shape?, h]
  obtain ⟨j, hj, hjs⟩ := Option.map_eq_some_iff.1 Knd.size68
  go_enter Tryz.func162, Tryz.ntmps162
  go_wp2
  rw [Lib.run_to_unsafe w ⟨b, 0, none⟩ Tryz.underlying100 Tryz.underlying250 hj (by rw [hjs]; decide) hsh (Nat.zero_lt_succ 2)]
  simp only [Result.andThen]
  rw [Oper.upon_value]
  go_wp2
  rw [run_callFunc_extern Tryz.func187 (by kernel_rfl) (by kernel_rfl) (by kernel_rfl) (e := Extern.AbiNoEscape.same) (by kernel_rfl)]
  rw [Lib.run_noEscape]
  simp only [Result.andThen]
  rw [Oper.upon_value]
  go_wp2
  rw [Lib.run_from_unsafe w ⟨b, 0, none⟩ Tryz.underlying250 Tryz.underlying100 hj hsh lies61]
  simp only [Result.andThen]
  rw [Oper.upon_value]
  go_wp2
  go_end0
  exact ⟨rfl, rfl⟩

set_option maxRecDepth 100000 in
theorem wrCheck_used (b : Nat) (v u : Value) (w : World) (h : w.heap[b]? = some (.cells #[.pointer (some ⟨b, 0, none⟩), v, u] 105 (0, 0))) :
    Calls Tryz.prog 162 #[.pointer (some ⟨b, 0, none⟩)] w fun e w' => e = .returned (.tuple #[]) ∧ w' = w := by
  have c0 := cell3_0 h
  obtain ⟨j, hj, hjs⟩ := Option.map_eq_some_iff.1 Knd.size68
  go_enter Tryz.func162, Tryz.ntmps162
  go_wp2
  rw [Lib.run_neq_ptr_same w _ Tryz.underlying100 hj]
  go_wp2
  go_end0
  exact ⟨rfl, rfl⟩

theorem wrCheck_any (b : Nat) (bs : List UInt8) (k : Int) (w : World) (h : Wr w b bs k) :
    Calls Tryz.prog 162 #[.pointer (some ⟨b, 0, none⟩)] w fun e w' => e = .returned (.tuple #[]) ∧ WrAt w' b (.pointer (some ⟨b, 0, none⟩)) bs k ∧ BFr b w w' := by
  rcases h with h | h
  · obtain ⟨v, hb, _⟩ := id h
    refine (wrCheck_new b v _ w hb).mono ?_
    rintro e w' ⟨rfl, rfl⟩
    exact ⟨rfl, wr_set h _, (BFr.refl b w).set_ _ _⟩
  · obtain ⟨v, hb, _⟩ := id h
    refine (wrCheck_used b v _ w hb).mono ?_
    rintro e w' ⟨rfl, rfl⟩
    exact ⟨rfl, h, BFr.refl b _⟩

theorem bcl_append (l m : List UInt8) : bcl (l ++ m) = bcl l ++ bcl m := by simp [bcl]
theorem bcl_str (s : ByteArray) : Lib.strCells s = bcl (bl s) := by simp [bcl, bl, Lib.strCells]

set_option maxRecDepth 100000 in
theorem wrString_any (b : Nat) (bs : List UInt8) (k : Int) (s : ByteArray) (w : World) (h : Wr w b bs k) (hl : bs.length + s.size ≤ 1000000000) :
    Calls Tryz.prog 124 #[.pointer (some ⟨b, 0, none⟩), .string s] w fun e w' => e = .returned (.tuple #[.int .i64 s.size, .nilIface]) ∧ Wr w' b (bs ++ bl s) k ∧ BFr b w w' := by
  obtain ⟨i0, hi, hq0, hq1, hq2⟩ := info_parts Knd.info5
  go_enter Tryz.func124, Tryz.ntmps124
  go_wp2_with (fail)
  refine (wrCheck_any b bs k w h).mono ?_
  rintro e w1 ⟨rfl, ⟨v, hb, hown, hne⟩, hf⟩
  have c0 := cell3_0 hb
  have c1 := cell3_1 hb
  have f0 := cell3_f hb 0
  have f1 := cell3_f hb 1
  have hbl := cell_lt hb
  go_wp2_with (at_builtin; refine Lib.wpList_append_own_string _ rfl _ _ 101 9 rfl b 5 i0 Tryz.underlying101 Tryz.underlying9 hi hq0 hq1 hq2 v bs.length (bcl bs) rfl hown s rfl (by unfold maxLen; omega) (by omega) (by omega) ?_; intro v' w2 hown2 hg2 _; obtain ⟨A2, c2, rfl⟩ := own_slice hown2; have hb2 := (hg2.block b hbl (fun e => hne e.symm)).trans hb; have d1 := cell3_1 hb2; have g1 := cell3_f hb2 1)
  go_ret2
  have hlen : (bs ++ bl s).length = bs.length + s.size := by simp [bl_length]
  refine ⟨rfl, .inr (wr_put hb2 (by rw [hlen, bcl_append, ← bcl_str]; exact hown2)), hf.trans (Knd.bfr_put (BFr.refl b w1) hown hg2 (by omega))⟩

set_option maxRecDepth 100000 in
theorem wrByte_any (b : Nat) (bs : List UInt8) (k : Int) (c : UInt8) (w : World) (h : Wr w b bs k) (hl : bs.length ≤ 1000000000) :
    Calls Tryz.prog 164 #[.pointer (some ⟨b, 0, none⟩), .int .u8 (c.toNat : Int)] w fun e w' => e = .returned .nilIface ∧ Wr w' b (bs ++ [c]) k ∧ BFr b w w' := by
  obtain ⟨i0, hi, hq0, hq1, hq2⟩ := info_parts Knd.info5
  go_enter Tryz.func164, Tryz.ntmps164
  go_wp2_with (fail)
  refine (wrCheck_any b bs k w h).mono ?_
  rintro e w1 ⟨rfl, ⟨v, hb, hown, hne⟩, hf⟩
  have c0 := cell3_0 hb
  have c1 := cell3_1 hb
  have f0 := cell3_f hb 0
  have f1 := cell3_f hb 1
  have hbl := cell_lt hb
  go_wp2_with (at_builtin; refine wpList_append_own _ rfl _ _ 101 rfl b 5 i0 (.int .u8 0) 1 1 Tryz.underlying101 hi hq0 hq1 hq2 rfl (by decide) v bs.length (bcl bs) rfl (hown.alloc _) ⟨w1.heap.size, 0, none⟩ 1 1 [.int .u8 (c.toNat : Int)] rfl rfl (cell_one_new' _ _ _ _ rfl) (by intro u hu; simp at hu; subst hu; rfl) (by unfold maxLen; omega) (by omega) (by simp; omega) ?_; intro v' w2 hown2 hg2 _; obtain ⟨A2, c2, rfl⟩ := own_slice hown2; have hb2 := (hg2.block b (by simp; omega) (fun e => hne e.symm)).trans ((Below.heap_alloc w1 _ b hbl).trans hb); have d1 := cell3_1 hb2; have g1 := cell3_f hb2 1)
  go_ret
  have hlen : (bs ++ [c]).length = bs.length + 1 := by simp
  refine ⟨rfl, .inr (wr_put hb2 (by rw [hlen, bcl_snoc]; exact hown2)), hf.trans (Knd.bfr_put ((BFr.refl b w1).alloc (by omega) _) (hown.alloc _) hg2 (by simp; omega))⟩

set_option maxRecDepth 100000 in
theorem wrLen_any (b : Nat) (bs : List UInt8) (k : Int) (w : World) (h : Wr w b bs k) :
    Calls Tryz.prog 91 #[.pointer (some ⟨b, 0, none⟩)] w fun e w' => e = .returned (.int .i64 (bs.length : Int)) ∧ w' = w := by
  obtain ⟨p, v, hb, hown, _⟩ := h.at
  obtain ⟨A, c, rfl⟩ := own_slice hown
  have c1 := cell3_1 hb
  go_enter Tryz.func91, Tryz.ntmps91
  go_wp2
  go_ret
  exact ⟨rfl, rfl⟩

theorem cells5 : Tryz.prog.cellsOf 5 = 1 := by kernel_rfl

set_option maxHeartbeats 2000000 in
set_option maxRecDepth 100000 in
theorem wrText_any (b : Nat) (bs : List UInt8) (k : Int) (w : World) (h : Wr w b bs k) (h0 : bs ≠ []) :
    Calls Tryz.prog 53 #[.pointer (some ⟨b, 0, none⟩)] w fun e w' => e = .returned (.string ⟨bs.toArray⟩) ∧ Below b w w' := by
  obtain ⟨p, v, hbk, hown, hne⟩ := h.at
  have hl0 : bs.length ≠ 0 := by simpa using h0
  rcases hown.2 with ⟨_, hz⟩ | ⟨g, cap, cur, rfl, hbg, hg, hnc, hcm, hcs, htake⟩
  · exact absurd hz hl0
  have c1 : w.drew.cell? ⟨b, 1, none⟩ = some (.slice (some ⟨g, 0, none⟩) bs.length cap) := cell3_1 hbk
  have c2 : w.cell? ⟨b, 1, none⟩ = some (.slice (some ⟨g, 0, none⟩) bs.length cap) := cell3_1 hbk
  have hSD : (Builtin.unsafeSliceData_ #[101] 148 #[.slice (some ⟨g, 0, none⟩) bs.length cap]).run Tryz.prog w.drew = .ok (.pointer (some ⟨g, 0, none⟩)) w.drew :=
    Lib.run_unsafeSliceData_row _ _ _ _ _ _ (by omega)
  have hUS : (Builtin.unsafeString_ #[148, 3] 9 #[.pointer (some ⟨g, 0, none⟩), .int .i64 bs.length]).run Tryz.prog w.drew = .ok (.string ⟨bs.toArray⟩) (w.drew.freeze ⟨g, 0, none⟩ bs.length) := by
    refine Lib.run_unsafeString_row w.drew 148 3 9 5 Tryz.underlying148 cells5 g cur.size (by have hg' : w.drew.heap[g]? = some (.cells cur 5 (0, 0)) := hg; simp [World.shape?, hg']) bs h0 (by omega) (by unfold maxLen at hcm; omega) ?_
    intro j x hx
    have := hown.cells (g := g) rfl j (.int .u8 x.toNat) (by simp [bcl, hx])
    exact this
  have hb : Below b w (w.drew.freeze ⟨g, 0, none⟩ bs.length) := by
    have hx : Below b w w.drew := Below.drew (Below.refl _ _)
    exact Lib.below_freeze hx (p := ⟨g, 0, none⟩) (by show b ≤ g; omega) _
  go_enter Tryz.func53, Tryz.ntmps53
  go_wp2
  go_region
  all_goals (go_wp2; go_ret; exact ⟨rfl, by first | exact hb | exact hb.drew⟩)
end Go.Proofs.YteebihdgfkmgmaaGreatDoor
