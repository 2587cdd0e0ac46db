/-
Load of the zero state, New; fire.
-/
import Derived.Test.YtoplkinlgneidaaTa
set_option linter.unusedVariables false
namespace Go.Proofs.Ytoplkinlgneidaa
open Go.RowKit

set_option maxRecDepth 100000 in
set_option maxHeartbeats 1000000 in
theorem tload_yes (E L T : Int) (a : Bool) (w : World) (h : SpecOk E L T) : Calls Try.prog 19 #[.agg #[.int .i64 E, .int .i64 L, .int .i64 T, .bool a], .agg #[.int .i64 0, .int .i64 0, .int .i64 0, .bool false, .bool false]] w (NewOut E L T a w) := by
  have HC := fun w => Lib.hid (check_yes E L T a w h)
  have HW := fun w => Lib.hid (within_yes 0 0 1099511627776 w ⟨by decide, by decide⟩)
  clear h
  go_enter Try.func19, Try.ntmps19
  go_wp2_with (first
    | (go_at_call 10; (with_reducible refine (HC _).out.mono ?_); rintro e w1 ⟨rfl, rfl⟩)
    | (go_at_call 34; refine (agrees0 _).mono ?_; rintro e w2 ⟨rfl, rfl⟩)
    | (go_at_call 20; (with_reducible refine (HW _).out.mono ?_); rintro e w3 ⟨rfl, rfl⟩)
    | (go_at_call 35; refine (load0 _).mono ?_; rintro e w4 ⟨rfl, rfl⟩))
  go_ret2
  refine ⟨w.heap.size + 5, w.heap.size + 4, rfl, by omega, by omega, ⟨by omega, ?_, ?_⟩, ?_⟩
  · exact heap_new_at (by simp)
  · exact heap_alloc_some (heap_new_at (by simp))
  · exact ((((((Below.refl _ w).alloc (Nat.le_refl _) _).alloc (by simp) _).alloc (by simp; omega) _).alloc (by simp; omega) _).alloc (by simp; omega) _).alloc (by simp; omega) _

set_option maxRecDepth 100000 in
set_option maxHeartbeats 1000000 in
theorem tload_no (E L T : Int) (a : Bool) (w : World) (h : ¬ SpecOk E L T) : Calls Try.prog 19 #[.agg #[.int .i64 E, .int .i64 L, .int .i64 T, .bool a], .agg #[.int .i64 0, .int .i64 0, .int .i64 0, .bool false, .bool false]] w fun e w' => e = .returned (.tuple #[.pointer none, .int .i64 100]) ∧ Below w.heap.size w w' := by
  have HC := fun w => Lib.hid (check_no E L T a w h)
  clear h
  go_enter Try.func19, Try.ntmps19
  go_wp2_with (go_at_call 10; (with_reducible refine (HC _).out.mono ?_); rintro e w1 ⟨rfl, rfl⟩)
  go_ret2
  exact ⟨rfl, (((Below.refl _ w).alloc (Nat.le_refl _) _).alloc (by simp) _).alloc (by simp; omega) _⟩

theorem NewOut.grow {E L T : Int} {a : Bool} {w w1 : World} (hb : Below w.heap.size w w1) {e : Ending} {w' : World} (h : NewOut E L T a w1 e w') : NewOut E L T a w e w' := by
  obtain ⟨m, g, he, hm, hg, hM, hB⟩ := h
  have := hb.size
  exact ⟨m, g, he, by omega, by omega, hM, hb.trans (hB.mono this)⟩

set_option maxRecDepth 100000 in
theorem tnew_yes (E L T : Int) (a : Bool) (w : World) (h : SpecOk E L T) : Calls Try.prog 8 #[.agg #[.int .i64 E, .int .i64 L, .int .i64 T, .bool a]] w (NewOut E L T a w) := by
  have HC := fun w => Lib.hid (tload_yes E L T a w h)
  clear h
  go_enter Try.func8, Try.ntmps8
  go_wp2_with (go_at_call 19; (with_reducible refine (HC _).out.mono ?_); rintro e w1 ⟨m, g, rfl, hm, hg, hM, hB⟩; have HM := Lib.hid hM; have HB := Lib.hid hB; clear hM hB)
  go_ret2
  simp at hm hg
  exact ⟨m, g, rfl, by omega, by omega, HM.out, ((Below.refl _ w).alloc (Nat.le_refl _) _).trans (HB.out.mono (by simp))⟩

set_option maxRecDepth 100000 in
theorem tnew_no (E L T : Int) (a : Bool) (w : World) (h : ¬ SpecOk E L T) : Calls Try.prog 8 #[.agg #[.int .i64 E, .int .i64 L, .int .i64 T, .bool a]] w fun e w' => e = .returned (.tuple #[.pointer none, .int .i64 100]) ∧ Below w.heap.size w w' := by
  have HC := fun w => Lib.hid (tload_no E L T a w h)
  clear h
  go_enter Try.func8, Try.ntmps8
  go_wp2_with (go_at_call 19; (with_reducible refine (HC _).out.mono ?_); rintro e w1 ⟨rfl, hB⟩; have HB := Lib.hid hB; clear hB)
  go_ret2
  exact ⟨rfl, ((Below.refl _ w).alloc (Nat.le_refl _) _).trans (HB.out.mono (by simp))⟩

/-- One pane, told. -/
def One (B : Nat) (w' : World) (b : Nat) (x : Inf) : Prop := B ≤ b ∧ w'.heap[b]? = some (.cells #[.int .i64 x.1, .int .i64 x.2.1, .bool x.2.2] 49 (0, 0))

theorem mc_set5 {w : World} {m g : Nat} {E L T : Int} {a : Bool} {fr : Int} {p c : Bool} (h : w.heap[m]? = some (.cells (mcs g E L T a fr p c) 67 (0, 0))) (k : Int) : (w.setCell ⟨m, 5, none⟩ (.int .i64 k)).heap[m]? = some (.cells (mcs g E L T a k p c) 67 (0, 0)) := by
  simp [World.setCell, Array.getElem?_modify, h, mcs]

theorem mc_set6 {w : World} {m g : Nat} {E L T : Int} {a : Bool} {fr : Int} {p c : Bool} (h : w.heap[m]? = some (.cells (mcs g E L T a fr p c) 67 (0, 0))) (k : Bool) : (w.setCell ⟨m, 6, none⟩ (.bool k)).heap[m]? = some (.cells (mcs g E L T a fr k c) 67 (0, 0)) := by
  simp [World.setCell, Array.getElem?_modify, h, mcs]

theorem mc_set7 {w : World} {m g : Nat} {E L T : Int} {a : Bool} {fr : Int} {p c : Bool} (h : w.heap[m]? = some (.cells (mcs g E L T a fr p c) 67 (0, 0))) (k : Bool) : (w.setCell ⟨m, 7, none⟩ (.bool k)).heap[m]? = some (.cells (mcs g E L T a fr p k) 67 (0, 0)) := by
  simp [World.setCell, Array.getElem?_modify, h, mcs]

set_option maxRecDepth 100000 in
set_option maxHeartbeats 1000000 in
theorem tfire_any (m g : Nat) (E L T : Int) (a : Bool) (n s fr : Int) (p c : Bool) (t : Int) (l : Bool) (w : World) (h : Mc w m g E L T a n s fr p c) (hn : 0 ≤ n) (hn2 : n < 4611686018427387904) (ho : okF s t) :
    Calls Try.prog 29 #[.pointer (some ⟨m, 0, none⟩), .int .i64 t, .bool l] w fun e w' => ∃ b, e = .returned (.slice (some ⟨b, 0, none⟩) 1 1) ∧ One w.heap.size w' b (n, t, l) ∧ Mc w' m g E L T a (n + 1) (stF t l) 0 p c ∧ Only2 m g w w' := by
  obtain ⟨hne, hc, hl⟩ := h
  have c4 := cells_at hc 4 (.pointer (some ⟨g, 0, none⟩)) rfl
  have hml := cell_lt hc
  have hgl := cell_lt hl
  have HF := Lib.hid (fire_yes g n s t l w hl hn hn2 ho)
  have HC := Lib.hid hc
  clear hc hl ho
  go_enter Try.func29, Try.ntmps29
  go_wp2_with (go_at_call 31; (with_reducible refine HF.out.mono ?_); rintro e w1 ⟨rfl, hl1, ho1⟩; have hc1 := ho1.at HC.out hne; have HC1 := Lib.hid hc1; have c5 := cells_at hc1 5 (.int .i64 fr) rfl; have cf := cells_f hc1; have hm1 := cell_lt hc1; have HL1 := Lib.hid hl1; have HO1 := Lib.hid ho1; have hs1 := ho1.size; clear hc1 hl1 ho1)
  go_ret
  refine ⟨w1.heap.size + 1, rfl, ⟨by omega, heap_new_at (by simp)⟩, ⟨hne, ?_, ?_⟩, ?_⟩
  · exact heap_alloc_some (heap_alloc_some (mc_set5 HC1.out 0))
  · exact heap_alloc_some (heap_alloc_some (heap_set_some (fun e => hne e.symm) HL1.out))
  · exact (((Only2.of_only' HO1.out).set_ (p := ⟨m, 5, none⟩) (.inl rfl) _).alloc_ _).alloc_ _

/-- What a call tells: its panes and its error. -/
def TOut (B : Nat) (o : Option Inf) (code : Int) (e : Ending) (w' : World) : Prop :=
  match o with
  | none => e = .returned (.tuple #[.slice none 0 0, .int .i64 code])
  | some x => ∃ b, e = .returned (.tuple #[.slice (some ⟨b, 0, none⟩) 1 1, .int .i64 code]) ∧ One B w' b x

set_option maxRecDepth 100000 in
theorem add_bad (m g : Nat) (E L T : Int) (a : Bool) (n s fr : Int) (p c : Bool) (v : Int) (w : World) (h : Mc w m g E L T a n s fr p c) (hv : ¬ (1 ≤ v ∧ v ≤ 1000)) :
    Calls Try.prog 14 #[.pointer (some ⟨m, 0, none⟩), .int .i64 v] w fun e w' => e = .returned (.tuple #[.slice none 0 0, .int .i64 100]) ∧ w = w' := by
  have HW := fun w => Lib.hid (within_no v 1 1000 w hv)
  clear hv h
  go_enter Try.func14, Try.ntmps14
  go_wp2_with (go_at_call 20; (with_reducible refine (HW _).out.mono ?_); rintro e w1 ⟨rfl, rfl⟩)
  go_ret2
  exact ⟨rfl, rfl⟩

set_option maxRecDepth 100000 in
theorem add_closed (m g : Nat) (E L T : Int) (a : Bool) (n s fr : Int) (p : Bool) (v : Int) (w : World) (h : Mc w m g E L T a n s fr p true) (hv : 1 ≤ v ∧ v ≤ 1000) :
    Calls Try.prog 14 #[.pointer (some ⟨m, 0, none⟩), .int .i64 v] w fun e w' => e = .returned (.tuple #[.slice none 0 0, .int .i64 200]) ∧ w = w' := by
  have HW := fun w => Lib.hid (within_yes v 1 1000 w hv)
  have c7 := cells_at h.cells 7 (.bool true) rfl
  clear hv h
  go_enter Try.func14, Try.ntmps14
  go_wp2_with (go_at_call 20; (with_reducible refine (HW _).out.mono ?_); rintro e w1 ⟨rfl, rfl⟩)
  go_ret2
  exact ⟨rfl, rfl⟩

/-- How many values must be fresh for a pane. -/
def lim (E L : Int) (p : Bool) : Int := if p = true then L else E

set_option maxRecDepth 100000 in
set_option maxHeartbeats 2000000 in
theorem add_quiet (m g : Nat) (E L T : Int) (a : Bool) (n s fr : Int) (p : Bool) (v : Int) (w : World) (h : Mc w m g E L T a n s fr p false) (hv : 1 ≤ v ∧ v ≤ 1000) (hf : 0 ≤ fr) (hf2 : fr ≤ 4611686018427387904) (hq : lim E L p = 0 ∨ fr + v < lim E L p) :
    Calls Try.prog 14 #[.pointer (some ⟨m, 0, none⟩), .int .i64 v] w fun e w' => e = .returned (.tuple #[.slice none 0 0, .int .i64 0]) ∧ Mc w' m g E L T a n s (fr + v) p false ∧ Only2 m g w w' := by
  have HW := fun w => Lib.hid (within_yes v 1 1000 w hv)
  have HS := fun w => Lib.hid (sum_any fr v w hf hf2 (by omega) (by omega))
  have hc := h.cells
  have c0 := cells_at hc 0 (.int .i64 E) rfl
  have c1 := cells_at hc 1 (.int .i64 L) rfl
  have c5 := cells_at hc 5 (.int .i64 fr) rfl
  have c6 := cells_at hc 6 (.bool p) rfl
  have c7 := cells_at hc 7 (.bool false) rfl
  have cf := cells_f hc
  have hml := cell_lt hc
  have hw : w.cell? ⟨m, 5, none⟩ = some (.int .i64 fr) := c5
  have HM := Lib.hid h
  clear hc h hv hf hf2
  have hend : Mc (w.setCell ⟨m, 5, none⟩ (.int .i64 (fr + v))).drew m g E L T a n s (fr + v) p false ∧ Only2 m g w (w.setCell ⟨m, 5, none⟩ (.int .i64 (fr + v))).drew :=
    ⟨⟨HM.out.ne, mc_set5 HM.out.cells _, heap_set_some (fun e => HM.out.ne e.symm) HM.out.line⟩, ((Only2.refl m g w).set_ (p := ⟨m, 5, none⟩) (.inl rfl) _).drewN 1⟩
  have hend2 : Mc (w.setCell ⟨m, 5, none⟩ (.int .i64 (fr + v))).drew.drew m g E L T a n s (fr + v) p false ∧ Only2 m g w (w.setCell ⟨m, 5, none⟩ (.int .i64 (fr + v))).drew.drew :=
    ⟨⟨HM.out.ne, mc_set5 HM.out.cells _, heap_set_some (fun e => HM.out.ne e.symm) HM.out.line⟩, ((Only2.refl m g w).set_ (p := ⟨m, 5, none⟩) (.inl rfl) _).drewN 2⟩
  have HEND := Lib.hid hend
  have HEND2 := Lib.hid hend2
  clear hend hend2
  cases p with
  | true =>
    have hq : L = 0 ∨ fr + v < L := hq
    by_cases hz : L = 0
    · subst hz
      clear hq
      go_enter Try.func14, Try.ntmps14
      go_wp2_with (first
        | (go_at_call 20; (with_reducible refine (HW _).out.mono ?_); rintro e w1 ⟨rfl, rfl⟩)
        | (go_at_call 28; (with_reducible refine (HS _).out.mono ?_); rintro e w1 ⟨rfl, rfl⟩))
      go_region
      go_wp2
      go_region
      go_wp2
      go_ret2
      exact ⟨rfl, HEND2.out.1, HEND2.out.2⟩
    · have hlt : fr + v < L := by omega
      have d1 : (L == 0) = false := by simp [hz]
      have d2 : decide (fr + v < L) = true := decide_eq_true hlt
      clear hq hz hlt
      go_enter Try.func14, Try.ntmps14
      go_wp2_with (first
        | (go_at_call 20; (with_reducible refine (HW _).out.mono ?_); rintro e w1 ⟨rfl, rfl⟩)
        | (go_at_call 28; (with_reducible refine (HS _).out.mono ?_); rintro e w1 ⟨rfl, rfl⟩))
      go_region
      go_wp2
      go_region
      go_wp2
      go_ret2
      exact ⟨rfl, HEND2.out.1, HEND2.out.2⟩
  | false =>
    have hq : E = 0 ∨ fr + v < E := hq
    by_cases hz : E = 0
    · subst hz
      clear hq
      go_enter Try.func14, Try.ntmps14
      go_wp2_with (first
        | (go_at_call 20; (with_reducible refine (HW _).out.mono ?_); rintro e w1 ⟨rfl, rfl⟩)
        | (go_at_call 28; (with_reducible refine (HS _).out.mono ?_); rintro e w1 ⟨rfl, rfl⟩))
      go_region
      go_wp2
      go_ret2
      exact ⟨rfl, HEND.out.1, HEND.out.2⟩
    · have hlt : fr + v < E := by omega
      have d1 : (E == 0) = false := by simp [hz]
      have d2 : decide (fr + v < E) = true := decide_eq_true hlt
      clear hq hz hlt
      go_enter Try.func14, Try.ntmps14
      go_wp2_with (first
        | (go_at_call 20; (with_reducible refine (HW _).out.mono ?_); rintro e w1 ⟨rfl, rfl⟩)
        | (go_at_call 28; (with_reducible refine (HS _).out.mono ?_); rintro e w1 ⟨rfl, rfl⟩))
      go_region
      go_wp2
      go_ret2
      exact ⟨rfl, HEND.out.1, HEND.out.2⟩

end Go.Proofs.Ytoplkinlgneidaa
