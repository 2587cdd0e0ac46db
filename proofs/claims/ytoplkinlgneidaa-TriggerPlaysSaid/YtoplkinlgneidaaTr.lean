/-
The document's machine.
-/
import Derived.Test.YtoplkinlgneidaaTq
set_option linter.unusedVariables false
namespace Go.Proofs.Ytoplkinlgneidaa
open Go.RowKit

/-- Only block x, the block of the row v, and what is new, have turned. -/
structure OnlyR (x : Nat) (v : Value) (w w' : World) : Prop where
  os : w'.os = w.os
  tape : w'.tape = w.tape
  output : w'.output = w.output
  size : w.heap.size ≤ w'.heap.size
  block : ∀ k, k < w.heap.size → k ≠ x → v.ownBlock ≠ some k → w'.heap[k]? = w.heap[k]?

theorem OnlyR.refl (x : Nat) (v : Value) (w : World) : OnlyR x v w w := ⟨rfl, rfl, rfl, Nat.le_refl _, fun _ _ _ _ => rfl⟩

theorem OnlyR.trans {x : Nat} {v v' : Value} {a b c : World} (h : OnlyR x v a b) (k : OnlyR x v' b c) (hv : v' = v) : OnlyR x v a c := by
  subst hv
  exact ⟨k.os.trans h.os, k.tape.trans h.tape, k.output.trans h.output, Nat.le_trans h.size k.size, fun i hi h1 h2 => (k.block i (Nat.lt_of_lt_of_le hi h.size) h1 h2).trans (h.block i hi h1 h2)⟩

theorem OnlyR.of_only {x : Nat} {v : Value} {a b : World} (h : Only x a b) : OnlyR x v a b := ⟨h.os, h.tape, h.output, h.size, fun i hi h1 _ => h.block i hi (fun e => h1 (Option.some.inj e))⟩

theorem OnlyR.of_below {x : Nat} {v : Value} {a b : World} (h : Below a.heap.size a b) : OnlyR x v a b := ⟨h.os, h.tape, h.output, h.size, fun i hi _ _ => h.block i hi⟩

theorem OnlyR.grown {x : Nat} {v : Value} {a b c : World} (h : OnlyR x v a b) (k : b.grownBy c v.ownBlock) : OnlyR x v a c :=
  ⟨k.os.trans h.os, k.tape.trans h.tape, k.output.trans h.output, Nat.le_trans h.size k.size, fun i hi h1 h2 => (k.block i (Nat.lt_of_lt_of_le hi h.size) (fun e => h2 e.symm)).trans (h.block i hi h1 h2)⟩

theorem OnlyR.at {x g : Nat} {v : Value} {a b : World} {o : Obj} (h : OnlyR x v a b) (hg : a.heap[g]? = some o) (h1 : g ≠ x) (h2 : v.ownBlock ≠ some g) : b.heap[g]? = some o := (h.block g (cell_lt hg) h1 h2).trans hg

theorem OnlyR.set_ {x : Nat} {v : Value} {w w' : World} (h : OnlyR x v w w') {p : Addr} (hp : p.block = x ∨ w.heap.size ≤ p.block) (u : Value) : OnlyR x v w (w'.setCell p u) :=
  ⟨h.os, h.tape, h.output, by simpa [World.setCell] using h.size, fun k hk h1 h2 => (Below.heap_setCell w' p u k (by omega)).trans (h.block k hk h1 h2)⟩

theorem OnlyR.alloc_ {x : Nat} {v : Value} {a b : World} (h : OnlyR x v a b) (o : Obj) : OnlyR x v a (b.alloc o) :=
  ⟨h.os, h.tape, h.output, by have := h.size; simp; omega, fun k hk h1 h2 => (Below.heap_alloc b o k (Nat.lt_of_lt_of_le hk h.size)).trans (h.block k hk h1 h2)⟩

theorem OnlyR.drewN {x : Nat} {v : Value} {a b : World} (h : OnlyR x v a b) (n : Nat) : OnlyR x v a (b.drewN n) := ⟨h.os, h.tape, h.output, h.size, h.block⟩

/-- The eight cells of the document's machine. -/
def xcs (E L T : Int) (a : Bool) (dv : Value) (fr : Int) (p c : Bool) : Array Value := #[.int .i64 E, .int .i64 L, .int .i64 T, .bool a, dv, .int .i64 fr, .bool p, .bool c]

/-- The document's machine lies in block x, the panes d in a row of its own. -/
structure Xc (w : World) (x B : Nat) (E L T : Int) (a : Bool) (dv : Value) (d : List Inf) (fr : Int) (p c : Bool) : Prop where
  cells : w.heap[x]? = some (.cells (xcs E L T a dv fr p c) 36 (0, 0))
  row : w.ownsRow B 76 3 dv d.length (flat d)
  lt : x < B

theorem Xc.slice {w : World} {x B : Nat} {E L T : Int} {a : Bool} {dv : Value} {d : List Inf} {fr : Int} {p c : Bool} (h : Xc w x B E L T a dv d fr p c) : ∃ A cp, dv = .slice A d.length cp := own_slice h.row

theorem Xc.kept {w w' : World} {x B : Nat} {E L T : Int} {a : Bool} {dv : Value} {d : List Inf} {fr : Int} {p c : Bool} (h : Xc w x B E L T a dv d fr p c) (hk : ∀ k, (k = x ∨ dv.ownBlock = some k) → w'.heap[k]? = w.heap[k]?) : Xc w' x B E L T a dv d fr p c := by
  refine ⟨(hk x (.inl rfl)).trans h.cells, ?_, h.lt⟩
  obtain ⟨h1, h2⟩ := h.row
  refine ⟨h1, ?_⟩
  rcases h2 with h | ⟨g, cap, cur, hv, hb, hg, rest⟩
  · exact .inl h
  · exact .inr ⟨g, cap, cur, hv, hb, (hk g (.inr (by rw [hv]; rfl))).trans hg, rest⟩

theorem Xc.rlt {w : World} {x B : Nat} {E L T : Int} {a : Bool} {dv : Value} {d : List Inf} {fr : Int} {p c : Bool} (h : Xc w x B E L T a dv d fr p c) {k : Nat} (hk : k = x ∨ dv.ownBlock = some k) : k < w.heap.size := by
  rcases hk with rfl | hk
  · exact cell_lt h.cells
  · exact (h.row.lt k hk).2

theorem Xc.below {w w' : World} {x B : Nat} {E L T : Int} {a : Bool} {dv : Value} {d : List Inf} {fr : Int} {p c : Bool} (h : Xc w x B E L T a dv d fr p c) (hb : Below w.heap.size w w') : Xc w' x B E L T a dv d fr p c :=
  h.kept fun k hk => hb.block k (h.rlt hk)

theorem Xc.set5 {w : World} {x B : Nat} {E L T : Int} {a : Bool} {dv : Value} {d : List Inf} {fr : Int} {p c : Bool} (h : Xc w x B E L T a dv d fr p c) (k : Int) : Xc (w.setCell ⟨x, 5, none⟩ (.int .i64 k)) x B E L T a dv d k p c := by
  refine ⟨?_, own_only h.row (Only.set_ x 5 w _) h.lt, h.lt⟩
  have := h.cells
  simp [World.setCell, Array.getElem?_modify, this, xcs]

theorem Xc.set6 {w : World} {x B : Nat} {E L T : Int} {a : Bool} {dv : Value} {d : List Inf} {fr : Int} {p c : Bool} (h : Xc w x B E L T a dv d fr p c) (k : Bool) : Xc (w.setCell ⟨x, 6, none⟩ (.bool k)) x B E L T a dv d fr k c := by
  refine ⟨?_, own_only h.row (Only.set_ x 6 w _) h.lt, h.lt⟩
  have := h.cells
  simp [World.setCell, Array.getElem?_modify, this, xcs]

theorem Xc.set7 {w : World} {x B : Nat} {E L T : Int} {a : Bool} {dv : Value} {d : List Inf} {fr : Int} {p c : Bool} (h : Xc w x B E L T a dv d fr p c) (k : Bool) : Xc (w.setCell ⟨x, 7, none⟩ (.bool k)) x B E L T a dv d fr p k := by
  refine ⟨?_, own_only h.row (Only.set_ x 7 w _) h.lt, h.lt⟩
  have := h.cells
  simp [World.setCell, Array.getElem?_modify, this, xcs]

theorem Xc.drewN {w : World} {x B : Nat} {E L T : Int} {a : Bool} {dv : Value} {d : List Inf} {fr : Int} {p c : Bool} (h : Xc w x B E L T a dv d fr p c) (n : Nat) : Xc (w.drewN n) x B E L T a dv d fr p c := h.kept fun _ _ => rfl

/-- One pane of the document's, told. -/
def OneR (B : Nat) (w' : World) (b : Nat) (x : Inf) : Prop := B ≤ b ∧ w'.heap[b]? = some (.cells #[.int .i64 x.1, .int .i64 x.2.1, .bool x.2.2] 76 (0, 0))

set_option maxRecDepth 100000 in
set_option maxHeartbeats 4000000 in
theorem rfire_any (x B : Nat) (E L T : Int) (a : Bool) (dv : Value) (d : List Inf) (fr : Int) (p c : Bool) (t : Int) (l : Bool) (w : World) (h : Xc w x B E L T a dv d fr p c) (hB : B ≤ w.heap.size) (hd : (d.length + 1) * 24 ≤ 140737488355328) :
    Calls Try.prog 36 #[.pointer (some ⟨x, 0, none⟩), .int .i64 t, .bool l] w fun e w' => ∃ b dv', e = .returned (.slice (some ⟨b, 0, none⟩) 1 1) ∧ OneR w.heap.size w' b ((d.length : Int), t, l) ∧ Xc w' x B E L T a dv' (d ++ [((d.length : Int), t, l)]) 0 p c ∧ OnlyR x dv w w' := by
  obtain ⟨i0, hi, hq0, hq1, hq2⟩ := info_parts Try.infoR
  obtain ⟨A, cp, rfl⟩ := h.slice
  have hc := h.cells
  have c4 := cells_at hc 4 (.slice A d.length cp) rfl
  have hxl := cell_lt hc
  have HX := Lib.hid h
  have hd' : d.length ≤ 9223372036854775806 := by omega
  clear hc h
  go_enter Try.func36, Try.ntmps36
  go_upto_region 2 with (fail)
  have hb : (w.alloc (.cells #[.int .i64 (d.length : Int), .int .i64 t, .bool l] 76)).heap[w.heap.size]? = some (.cells #[.int .i64 (d.length : Int), .int .i64 t, .bool l] 76 (0, 0)) := heap_alloc_new w _
  have HX1 := Lib.hid (HX.out.below ((Below.refl _ w).alloc (Nat.le_refl _) (.cells #[.int .i64 (d.length : Int), .int .i64 t, .bool l] 76)))
  have HO1 : Hid (OnlyR x (.slice A d.length cp) w (w.alloc (.cells #[.int .i64 (d.length : Int), .int .i64 t, .bool l] 76))) := Lib.hid ((OnlyR.refl x _ w).alloc_ _)
  generalize w.alloc (.cells #[.int .i64 (d.length : Int), .int .i64 t, .bool l] 76) = W at hb HX1 HO1 ⊢
  have HBb := Lib.hid hb
  have b0 := cell3_0 hb
  have b1 := cell3_1 hb
  have b2 := cell3_2 hb
  have hbl := cell_lt hb
  have hcW := HX1.out.cells
  have c4 := cells_at hcW 4 (.slice A d.length cp) rfl
  have hxW := cell_lt hcW
  have cf := cells_f hcW
  clear hb hcW
  go_cut [23] (fun s23 wx => ∃ dv', Xc wx x B E L T a dv' (d ++ [((d.length : Int), t, l)]) fr p c ∧ OnlyR x (.slice A d.length cp) w wx ∧ wx.heap[w.heap.size]? = some (.cells #[.int .i64 (d.length : Int), .int .i64 t, .bool l] 76 (0, 0)))
  case first =>
    go_region_law (first
      | (refine step_append_any (by rfl) _ _ _ (by rfl) B 76 i0 (.agg #[.int .i64 0, .int .i64 0, .bool false]) 3 24 Try.underlying34 hi hq0 hq1 hq2 rfl (by decide) (.slice A d.length cp) d.length (flat d) (by rfl) (HX1.out.row.alloc _) ⟨W.heap.size, 0, none⟩ 1 1 [.int .i64 (d.length : Int), .int .i64 t, .bool l] (by rfl) rfl (list_one_new _ _ _ _ _ _ rfl) (three_one _ _ _) (by unfold maxLen; omega) (by omega) (by simp; omega) ?_; intro v8 w8 hown8 hg8 _; obtain ⟨A8, c8, rfl⟩ := own_slice hown8; have hc8 := grown_at hg8 (heap_alloc_some HX1.out.cells) (fun k hk e => by have h1 := (HX1.out.row.lt k hk).1; have h2 := HX1.out.lt; omega); have k4 := cells_at hc8 4 (.slice A d.length cp) rfl; have kf := cells_f hc8; have kl := cell_lt hc8; have HC8 := Lib.hid hc8; have HR8 := Lib.hid hown8; have HG8 := Lib.hid hg8; clear hc8 hown8 hg8)
      | fail)
    all_goals
      go_wp2
      go_meet
      refine ⟨.slice A8 (d.length + 1) c8, ⟨?_, ?_, HX1.out.lt⟩, ?_, ?_⟩
      · have := HC8.out
        simp [World.setCell, Array.getElem?_modify, this, xcs]
      · rw [flat_snoc, List.length_append]
        exact own_only HR8.out (Only.set_ x 4 w8 _) HX1.out.lt
      · exact (OnlyR.grown (b := _) ((HO1.out.alloc_ _).drewN 1) HG8.out).set_ (p := ⟨x, 4, none⟩) (.inl rfl) _
      · have hr := HX1.out.row.lt
        have hg1 := HG8.out
        exact heap_set_some (by show w.heap.size ≠ x; omega) (grown_at hg1 (heap_alloc_some HBb.out) (fun k hk e => by have h1 := HX.out.rlt (.inr hk); omega))
  obtain ⟨dv', HXc, HOc, HBc⟩ := hcut
  have hc := HXc.cells
  have c5 := cells_at hc 5 (.int .i64 fr) rfl
  have cf := cells_f hc
  have hxl := cell_lt hc
  have hXs := HXc.set5 0
  have hXl : w.heap.size ≤ wc.heap.size := HOc.size
  have HXS := Lib.hid hXs
  have HOS := Lib.hid HOc
  have hbs : (wc.setCell ⟨x, 5, none⟩ (.int .i64 0)).heap[w.heap.size]? = some (.cells #[.int .i64 (d.length : Int), .int .i64 t, .bool l] 76 (0, 0)) := heap_set_some (by show w.heap.size ≠ x; omega) HBc
  have b0 := cell3_0 hbs
  have b1 := cell3_1 hbs
  have b2 := cell3_2 hbs
  have hbl := cell_lt hbs
  clear hc hXs HXc HOc HBc hbs
  go_wp2
  go_ret
  exact ⟨wc.heap.size, dv', rfl, ⟨hXl, heap_new_at (by simp)⟩, HXS.out.below ((Below.refl _ _).alloc (Nat.le_refl _) _), (HOS.out.set_ (p := ⟨x, 5, none⟩) (.inl rfl) _).alloc_ _⟩
end Go.Proofs.Ytoplkinlgneidaa
