/-
The writing methods of strings.Builder: copyCheck, WriteString, WriteByte.
-/
import Derived.Test.YtdoadedglpjldaaDoorPa
import Derived.Test.YtdoadedglpjldaaDoorShelf
import Derived.Lib.OthersKept
import Derived.Lib.AppendStr
import Derived.LaidEqlPtr
namespace Go.Proofs.YtdoadedglpjldaaDoor
open Go.RowKit

/-- Behind a write to the builder in block b: nothing below b, and no block that is not of bytes, has turned. -/
structure BFr (b : Nat) (w w' : World) : Prop where
  below : Below b w w'
  kept : Lib.OthersKept 5 (some b) w w'
theorem BFr.refl (b : Nat) (w : World) : BFr b w w := ⟨Below.refl _ _, Lib.OthersKept.refl _ _ _⟩
theorem BFr.trans {b : Nat} {x y z : World} (h : BFr b x y) (k : BFr b y z) : BFr b x z := ⟨h.below.trans k.below, h.kept.trans k.kept⟩
theorem BFr.alloc {b : Nat} {x y : World} (h : BFr b x y) (hb : b ≤ y.heap.size) (o : Obj) : BFr b x (y.alloc o) := ⟨h.below.alloc hb o, h.kept.alloc o⟩
theorem BFr.set_ {b : Nat} {x y : World} (h : BFr b x y) (i : Nat) (u : Value) : BFr b x (y.setCell ⟨b, i, none⟩ u) := ⟨h.below.setCell (Nat.le_refl _) u, h.kept.setCell _ rfl u⟩
/-- A block of the call's own, of another kind, stands. -/
theorem BFr.cells {b : Nat} {x y : World} (h : BFr b x y) {k : Nat} {cs : Array Value} {t : TypeId} (hk : x.heap[k]? = some (.cells cs t (0, 0))) (hb : k ≠ b) (ht : t ≠ 5) : y.heap[k]? = some (.cells cs t (0, 0)) :=
  h.kept k _ hk (fun e => hb (Option.some.inj e)) (fun c fz e => by injection e with _ e2 _; exact ht e2)

theorem info5 : (Tryd.prog.info? 5).map (fun i => (i.zero, i.size, i.bytes)) = some (some (.int .u8 0), 1, 1) := by kernel_rfl

theorem size68 : (Tryd.prog.info? 68).map (·.size) = some 2 := by kernel_rfl

set_option maxRecDepth 100000 in
theorem copyCheck_new (b : Nat) (v : Value) (w : World) (h : w.heap[b]? = some (.cells #[.pointer none, v] 68 (0, 0))) :
    Calls Tryd.prog 47 #[.pointer (some ⟨b, 0, none⟩)] w fun e w' => e = .returned (.tuple #[]) ∧ w' = w.setCell ⟨b, 0, none⟩ (.pointer (some ⟨b, 0, none⟩)) := by
  have c0 := cell2_0 h
  have f0 := cell3_f h 0
  have hsh : w.shape? b = some (68, 2) := by simp [World.shape?, h]
  obtain ⟨j, hj, hjs⟩ := Option.map_eq_some_iff.1 size68
  go_enter Tryd.func47, Tryd.ntmps47
  go_wp2
  rw [Lib.run_to_unsafe w ⟨b, 0, none⟩ Tryd.underlying65 Tryd.underlying102 hj (by rw [hjs]; decide) hsh (Nat.zero_lt_succ 1)]
  simp only [Result.andThen]
  rw [Oper.upon_value]
  go_wp2
  rw [run_callFunc_extern Tryd.func49 (by kernel_rfl) (by kernel_rfl) (by kernel_rfl) (e := Extern.AbiNoEscape.same) (by kernel_rfl)]
  rw [Lib.run_noEscape]
  simp only [Result.andThen]
  rw [Oper.upon_value]
  go_wp2
  rw [Lib.run_from_unsafe w ⟨b, 0, none⟩ Tryd.underlying102 Tryd.underlying65 hj hsh (by kernel_rfl)]
  simp only [Result.andThen]
  rw [Oper.upon_value]
  go_wp2
  go_end0
  exact ⟨rfl, rfl⟩

set_option maxRecDepth 100000 in
theorem copyCheck_used (b : Nat) (v : Value) (w : World) (h : w.heap[b]? = some (.cells #[.pointer (some ⟨b, 0, none⟩), v] 68 (0, 0))) :
    Calls Tryd.prog 47 #[.pointer (some ⟨b, 0, none⟩)] w fun e w' => e = .returned (.tuple #[]) ∧ w' = w := by
  have c0 := cell2_0 h
  obtain ⟨j, hj, hjs⟩ := Option.map_eq_some_iff.1 size68
  go_enter Tryd.func47, Tryd.ntmps47
  go_wp2
  rw [Lib.run_neq_ptr_same w _ Tryd.underlying65 hj]
  go_wp2
  go_end0
  exact ⟨rfl, rfl⟩
/-- The builder in block b has been written these bytes. -/
def Bld (w : World) (b : Nat) (bs : List Value) : Prop := Lib.IsBuilder 68 5 b b bs w

theorem copyCheck_any (b : Nat) (bs : List Value) (w : World) (h : Bld w b bs) :
    Calls Tryd.prog 47 #[.pointer (some ⟨b, 0, none⟩)] w fun e w' => e = .returned (.tuple #[]) ∧ Lib.BuilderAt 68 5 b b (.pointer (some ⟨b, 0, none⟩)) bs w' ∧ BFr b w w' := by
  rcases h with h | h
  · obtain ⟨v, hb, _⟩ := h.2
    refine (copyCheck_new b v w hb).mono ?_
    rintro e w' ⟨rfl, rfl⟩
    exact ⟨rfl, h.used _, (BFr.refl b w).set_ _ _⟩
  · obtain ⟨v, hb, _⟩ := h.2
    refine (copyCheck_used b v w hb).mono ?_
    rintro e w' ⟨rfl, rfl⟩
    exact ⟨rfl, h, BFr.refl b _⟩

theorem cell_one_new' (w : World) (a : Value) (t : TypeId) (B : Nat) (hB : B = w.heap.size) : ∀ j u, [a][j]? = some u → (w.alloc (.cells #[a] t)).cell? ((⟨B, 0, none⟩ : Addr).add j) = some u := by
  subst hB
  intro j u hj
  match j, hj with
  | 0, hj => simp at hj; subst hj; simp [Addr.add]
  | j + 1, hj => simp at hj

theorem own_kind {w : World} {B : Nat} {e : TypeId} {v : Value} {n : Nat} {xs : List Value} (h : w.ownsRow B e 1 v n xs) : ∀ g, v.ownBlock = some g → ∃ c fz, w.heap[g]? = some (.cells c e fz) := by
  intro g hg
  rcases h.2 with ⟨rfl, _⟩ | ⟨g', cap, cur, rfl, _, hh, _⟩
  · simp [Value.ownBlock] at hg
  · simp [Value.ownBlock] at hg
    subst hg
    exact ⟨cur, _, hh⟩

theorem own_slice {w : World} {B : Nat} {e : TypeId} {size : Nat} {v : Value} {n : Nat} {xs : List Value} (h : w.ownsRow B e size v n xs) : ∃ A c, v = .slice A n c := by
  rcases h.2 with ⟨rfl, rfl⟩ | ⟨g', cap, cur, rfl, _⟩
  · exact ⟨_, _, rfl⟩
  · exact ⟨_, _, rfl⟩

theorem bfr_put {b : Nat} {w0 w w1 : World} {v v' : Value} {n : Nat} {xs : List Value} (h : BFr b w0 w) (hown : w.ownsRow b 5 1 v n xs) (hg : w.grownBy w1 v.ownBlock) (hb : b ≤ w.heap.size) : BFr b w0 (w1.setCell ⟨b, 1, none⟩ v') :=
  BFr.set_ ⟨h.below.grown hg hb (fun k hk => (hown.lt k hk).1), h.kept.grown hg (own_kind hown)⟩ 1 v'

set_option maxRecDepth 100000 in
theorem writeString_any (b : Nat) (bs : List Value) (s : ByteArray) (w : World) (h : Bld w b bs) (hl : bs.length + s.size ≤ 1000000000) :
    Calls Tryd.prog 38 #[.pointer (some ⟨b, 0, none⟩), .string s] w fun e w' => e = .returned (.tuple #[.int .i64 s.size, .nilIface]) ∧ Bld w' b (bs ++ Lib.strCells s) ∧ BFr b w w' := by
  obtain ⟨i0, hi, hq0, hq1, hq2⟩ := info_parts info5
  go_enter Tryd.func38, Tryd.ntmps38
  go_wp2_with (fail)
  refine (copyCheck_any b bs w h).mono ?_
  rintro e w1 ⟨rfl, ⟨_, v, hb, hown, hne⟩, hf⟩
  have c0 := cell2_0 hb
  have c1 := cell2_1 hb
  have f0 := cell3_f hb 0
  have f1 := cell3_f hb 1
  have hbl := cell_lt hb
  go_wp2_with (at_builtin; refine Lib.wpList_append_own_string _ rfl _ _ 66 9 rfl b 5 i0 Tryd.underlying66 Tryd.underlying9 hi hq0 hq1 hq2 v bs.length bs rfl hown s rfl (by unfold maxLen; omega) (by omega) (by omega) ?_; intro v' w2 hown2 hg2 _; obtain ⟨A2, c2, rfl⟩ := own_slice hown2; have hb2 := (hg2.block b hbl (fun e => hne e.symm)).trans hb; have d1 := cell2_1 hb2; have g1 := cell3_f hb2 1)
  go_ret2
  have hlen : (bs ++ Lib.strCells s).length = bs.length + s.size := by simp [Lib.strCells]
  refine ⟨rfl, .inr (Lib.BuilderAt.put (Nat.le_refl _) hb2 (by rw [hlen]; exact hown2) (by decide)), hf.trans (bfr_put (BFr.refl b w1) hown hg2 (by omega))⟩

set_option maxRecDepth 100000 in
theorem writeByte_any (b : Nat) (bs : List Value) (c : Int) (w : World) (h : Bld w b bs) (hl : bs.length ≤ 1000000000) :
    Calls Tryd.prog 39 #[.pointer (some ⟨b, 0, none⟩), .int .u8 c] w fun e w' => e = .returned .nilIface ∧ Bld w' b (bs ++ [.int .u8 c]) ∧ BFr b w w' := by
  obtain ⟨i0, hi, hq0, hq1, hq2⟩ := info_parts info5
  go_enter Tryd.func39, Tryd.ntmps39
  go_wp2_with (fail)
  refine (copyCheck_any b bs w h).mono ?_
  rintro e w1 ⟨rfl, ⟨_, v, hb, hown, hne⟩, hf⟩
  have c0 := cell2_0 hb
  have c1 := cell2_1 hb
  have f0 := cell3_f hb 0
  have f1 := cell3_f hb 1
  have hbl := cell_lt hb
  go_wp2_with (at_builtin; refine wpList_append_own _ rfl _ _ 66 rfl b 5 i0 (.int .u8 0) 1 1 Tryd.underlying66 hi hq0 hq1 hq2 rfl (by decide) v bs.length bs rfl (hown.alloc _) ⟨w1.heap.size, 0, none⟩ 1 1 [.int .u8 c] rfl rfl (cell_one_new' _ _ _ _ rfl) (by intro u hu; simp at hu; subst hu; rfl) (by unfold maxLen; omega) (by omega) (by simp; omega) ?_; intro v' w2 hown2 hg2 _; obtain ⟨A2, c2, rfl⟩ := own_slice hown2; have hb2 := (hg2.block b (by simp; omega) (fun e => hne e.symm)).trans ((Below.heap_alloc w1 _ b hbl).trans hb); have d1 := cell2_1 hb2; have g1 := cell3_f hb2 1)
  go_ret
  refine ⟨rfl, .inr (Lib.BuilderAt.put (Nat.le_refl _) hb2 (by simpa using hown2) (by decide)), hf.trans (bfr_put ((BFr.refl b w1).alloc (by omega) _) (hown.alloc _) hg2 (by simp; omega))⟩
end Go.Proofs.YtdoadedglpjldaaDoor
