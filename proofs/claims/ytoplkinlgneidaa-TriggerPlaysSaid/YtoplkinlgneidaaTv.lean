/-
The document's answers: Right, Add, Pass, Close, Join.
-/
import Derived.Test.YtoplkinlgneidaaTr
set_option linter.unusedVariables false
namespace Go.Proofs.Ytoplkinlgneidaa
open Go.RowKit

def RightB (E L T : Int) : Bool := decide (SpecOk E L T)

set_option maxRecDepth 100000 in
set_option maxHeartbeats 4000000 in
theorem right_any (E L T : Int) (a : Bool) (w : World) : Calls Try.prog 9 #[.agg #[.int .i64 E, .int .i64 L, .int .i64 T, .bool a]] w fun e w' => e = .returned (.bool (RightB E L T)) ∧ w' = w.alloc (.cells #[.int .i64 E, .int .i64 L, .int .i64 T, .bool a] 30) := by
  by_cases h0 : 0 ≤ E
  case neg =>
    have HR : Hid (RightB E L T = false) := Lib.hid (decide_eq_false fun h => h0 h.1.1)
    have d0 : decide (0 ≤ E) = false := decide_eq_false h0
    clear h0
    go_enter Try.func9, Try.ntmps9
    go_wp2
    go_ret
    exact ⟨ret_bool HR.out.symm, rfl⟩
  have d0 : decide (0 ≤ E) = true := decide_eq_true h0
  by_cases h1 : E ≤ 1000
  case neg =>
    have HR : Hid (RightB E L T = false) := Lib.hid (decide_eq_false fun h => h1 h.1.2)
    have d1 : decide (E ≤ 1000) = false := decide_eq_false h1
    clear h0 h1
    go_enter Try.func9, Try.ntmps9
    go_wp2
    go_ret
    exact ⟨ret_bool HR.out.symm, rfl⟩
  have d1 : decide (E ≤ 1000) = true := decide_eq_true h1
  by_cases h2 : 0 ≤ L
  case neg =>
    have HR : Hid (RightB E L T = false) := Lib.hid (decide_eq_false fun h => h2 h.2.1.1)
    have d2 : decide (0 ≤ L) = false := decide_eq_false h2
    clear h0 h1 h2
    go_enter Try.func9, Try.ntmps9
    go_wp2
    go_ret
    exact ⟨ret_bool HR.out.symm, rfl⟩
  have d2 : decide (0 ≤ L) = true := decide_eq_true h2
  by_cases h3 : L ≤ 1000
  case neg =>
    have HR : Hid (RightB E L T = false) := Lib.hid (decide_eq_false fun h => h3 h.2.1.2)
    have d3 : decide (L ≤ 1000) = false := decide_eq_false h3
    clear h0 h1 h2 h3
    go_enter Try.func9, Try.ntmps9
    go_wp2
    go_ret
    exact ⟨ret_bool HR.out.symm, rfl⟩
  have d3 : decide (L ≤ 1000) = true := decide_eq_true h3
  by_cases h4 : 0 ≤ T
  case neg =>
    have HR : Hid (RightB E L T = false) := Lib.hid (decide_eq_false fun h => h4 h.2.2.1.1)
    have d4 : decide (0 ≤ T) = false := decide_eq_false h4
    clear h0 h1 h2 h3 h4
    go_enter Try.func9, Try.ntmps9
    go_wp2
    go_ret
    exact ⟨ret_bool HR.out.symm, rfl⟩
  have d4 : decide (0 ≤ T) = true := decide_eq_true h4
  by_cases h5 : T ≤ 1048576
  case neg =>
    have HR : Hid (RightB E L T = false) := Lib.hid (decide_eq_false fun h => h5 h.2.2.1.2)
    have d5 : decide (T ≤ 1048576) = false := decide_eq_false h5
    clear h0 h1 h2 h3 h4 h5
    go_enter Try.func9, Try.ntmps9
    go_wp2
    go_ret
    exact ⟨ret_bool HR.out.symm, rfl⟩
  have d5 : decide (T ≤ 1048576) = true := decide_eq_true h5
  by_cases h6 : 0 < T
  case pos =>
    have HR : Hid (RightB E L T = true) := Lib.hid (decide_eq_true ⟨⟨h0, h1⟩, ⟨h2, h3⟩, ⟨h4, h5⟩, .inr (by omega)⟩)
    have d6 : decide (0 < T) = true := decide_eq_true h6
    clear h0 h1 h2 h3 h4 h5 h6
    go_enter Try.func9, Try.ntmps9
    go_wp2
    go_ret
    exact ⟨ret_bool HR.out.symm, rfl⟩
  have d6 : decide (0 < T) = false := decide_eq_false h6
  by_cases h7 : L = 0
  case pos =>
    have HR : Hid (RightB E L T = true) := Lib.hid (decide_eq_true ⟨⟨h0, h1⟩, ⟨h2, h3⟩, ⟨h4, h5⟩, .inl h7⟩)
    have d7 : (L == 0) = true := by simp [h7]
    clear h0 h1 h2 h3 h4 h5 h6 h7
    go_enter Try.func9, Try.ntmps9
    go_wp2
    go_ret
    exact ⟨ret_bool HR.out.symm, rfl⟩
  have HR : Hid (RightB E L T = false) := Lib.hid (decide_eq_false fun h => by have := h.2.2.2; omega)
  have d7 : (L == 0) = false := by simp [h7]
  clear h0 h1 h2 h3 h4 h5 h6 h7
  go_enter Try.func9, Try.ntmps9
  go_wp2
  go_ret
  exact ⟨ret_bool HR.out.symm, rfl⟩

/-- The document's panes of a call, as a value. -/
def ToldR (B : Nat) (w' : World) (V : Value) (o : Option Inf) : Prop := match o with
  | none => V = .slice none 0 0
  | some x => ∃ b, V = .slice (some ⟨b, 0, none⟩) 1 1 ∧ OneR B w' b x

/-- What a call of the document's machine comes to. -/
def RStOut (x B : Nat) (E L T : Int) (a : Bool) (dv : Value) (d : List Inf) (r : Stp) (w : World) (e : Ending) (w' : World) : Prop :=
  ∃ V dv', e = .returned (.tuple #[V, .int .i64 r.2.1]) ∧ ToldR w.heap.size w' V r.1 ∧ Xc w' x B E L T a dv' (after d r) r.2.2.1 r.2.2.2.1 r.2.2.2.2 ∧ OnlyR x dv w w'

theorem RStOut.none_ {x B : Nat} {E L T : Int} {a : Bool} {dv : Value} {d : List Inf} {code fr : Int} {p c : Bool} {w : World} {e : Ending} {w' : World} (he : e = .returned (.tuple #[.slice none 0 0, .int .i64 code])) (hX : Xc w' x B E L T a dv d fr p c) (ho : OnlyR x dv w w') : RStOut x B E L T a dv d (none, code, fr, p, c) w e w' :=
  ⟨_, dv, he, rfl, by simpa [after] using hX, ho⟩

theorem RStOut.some_ {x B : Nat} {E L T : Int} {a : Bool} {dv : Value} {d : List Inf} {t : Int} {l p c : Bool} {w wa w' : World} {b : Nat} {dv' : Value} (ho : OnlyR x dv w wa) (h1 : OneR wa.heap.size w' b ((d.length : Int), t, l)) (hX : Xc w' x B E L T a dv' (d ++ [((d.length : Int), t, l)]) 0 p c) (h2 : OnlyR x dv wa w') : RStOut x B E L T a dv d (some ((d.length : Int), t, l), 0, 0, p, c) w (.returned (.tuple #[.slice (some ⟨b, 0, none⟩) 1 1, .int .i64 0])) w' :=
  ⟨_, dv', rfl, ⟨b, rfl, Nat.le_trans ho.size h1.1, h1.2⟩, by simpa [after] using hX, ho.trans h2 rfl⟩

set_option maxRecDepth 100000 in
set_option maxHeartbeats 4000000 in
theorem radd_any (x B : Nat) (E L T : Int) (a : Bool) (dv : Value) (d : List Inf) (fr : Int) (p c : Bool) (v : Int) (w : World) (h : Xc w x B E L T a dv d fr p c) (hB : B ≤ w.heap.size) (hd : (d.length + 1) * 24 ≤ 140737488355328) (hE : 0 ≤ E) (hL : 0 ≤ L) (hf : 0 ≤ fr) (hf2 : fr ≤ 4611686018427387904) :
    Calls Try.prog 21 #[.pointer (some ⟨x, 0, none⟩), .int .i64 v] w (RStOut x B E L T a dv d (addP E L d.length fr p c v) w) := by
  unfold addP
  have hc := h.cells
  have c0 := cells_at hc 0 (.int .i64 E) rfl
  have c1 := cells_at hc 1 (.int .i64 L) rfl
  have c2 := cells_at hc 2 (.int .i64 T) rfl
  have c5 := cells_at hc 5 (.int .i64 fr) rfl
  have c6 := cells_at hc 6 (.bool p) rfl
  have c7 := cells_at hc 7 (.bool c) rfl
  have cf := cells_f hc
  have hxl := cell_lt hc
  have HX := Lib.hid h
  clear hc h
  by_cases hv1 : v < 1
  · rw [if_pos (by omega)]
    have d1 : decide (v < 1) = true := decide_eq_true hv1
    clear hv1
    go_enter Try.func21, Try.ntmps21
    go_wp2
    go_ret2
    exact .none_ rfl HX.out (OnlyR.refl _ _ _)
  have d1 : decide (v < 1) = false := decide_eq_false hv1
  by_cases hv2 : 1000 < v
  · rw [if_pos (by omega)]
    have d2 : decide (1000 < v) = true := decide_eq_true hv2
    clear hv1 hv2
    go_enter Try.func21, Try.ntmps21
    go_wp2
    go_ret2
    exact .none_ rfl HX.out (OnlyR.refl _ _ _)
  have d2 : decide (1000 < v) = false := decide_eq_false hv2
  rw [if_neg (by omega)]
  cases c with
  | true =>
    rw [if_pos rfl]
    clear hv1 hv2
    go_enter Try.func21, Try.ntmps21
    go_wp2
    go_ret2
    exact .none_ rfl HX.out (OnlyR.refl _ _ _)
  | false =>
    rw [if_neg (fun e => by cases e)]
    have hwr : IntKind.i64.wrap (fr + v) = fr + v := IntWalk.i64_in _ (by omega)
    have HX5 := Lib.hid (HX.out.set5 (fr + v))
    have hv0 : 0 < v := by omega
    have HO5 : Hid (OnlyR x dv w (w.setCell ⟨x, 5, none⟩ (.int .i64 (fr + v)))) := Lib.hid ((OnlyR.refl x dv w).set_ (p := ⟨x, 5, none⟩) (.inl rfl) _)
    cases p with
    | true =>
      by_cases hk : L = 0
      · rw [if_neg (fun e => e.1 hk)]
        subst hk
        go_enter Try.func21, Try.ntmps21
        go_wp2
        go_quiet (fail)
        go_wp2
        go_quiet (fail)
        go_wp2
        go_ret2
        exact .none_ rfl ((HX5.out.drewN _).drewN _) ((HO5.out.drewN _).drewN _)
      · have hk0 : decide (0 < L) = true := decide_eq_true (by omega)
        by_cases hq : L ≤ fr + v
        · rw [if_pos ⟨hk, hq⟩]
          have hq' : decide (L ≤ fr + v) = true := decide_eq_true hq
          have HF : Hid (∀ n1, _) := Lib.hid (fun n1 => rfire_any x B E L T a dv d (fr + v) true false 2 false ((w.setCell ⟨x, 5, none⟩ (.int .i64 (fr + v))).drewN n1) (HX5.out.drewN n1) (Nat.le_trans hB HO5.out.size) hd)
          clear hk hq
          go_enter Try.func21, Try.ntmps21
          go_wp2
          go_quiet (fail)
          go_wp2
          go_quiet (fail)
          go_wp2_with (go_at_call 36; (with_reducible refine (HF.out _).mono ?_); rintro e w2 ⟨b, dv', rfl, h1, h2, h3⟩; have H1 := Lib.hid h1; have H2 := Lib.hid h2; have H3 := Lib.hid h3; clear h1 h2 h3)
          go_ret2
          exact .some_ (HO5.out.drewN _) H1.out H2.out H3.out
        · rw [if_neg (fun e => hq e.2)]
          have hq' : decide (L ≤ fr + v) = false := decide_eq_false hq
          clear hk hq
          go_enter Try.func21, Try.ntmps21
          go_wp2
          go_quiet (fail)
          go_wp2
          go_quiet (fail)
          go_wp2
          go_ret2
          exact .none_ rfl ((HX5.out.drewN _).drewN _) ((HO5.out.drewN _).drewN _)
    | false =>
      by_cases hk : E = 0
      · rw [if_neg (fun e => e.1 hk)]
        subst hk
        go_enter Try.func21, Try.ntmps21
        go_wp2
        go_quiet (fail)
        go_wp2
        go_quiet (fail)
        go_wp2
        go_ret2
        exact .none_ rfl ((HX5.out.drewN _).drewN _) ((HO5.out.drewN _).drewN _)
      · have hk0 : decide (0 < E) = true := decide_eq_true (by omega)
        by_cases hq : E ≤ fr + v
        · rw [if_pos ⟨hk, hq⟩]
          have hq' : decide (E ≤ fr + v) = true := decide_eq_true hq
          have HF : Hid (∀ n1, _) := Lib.hid (fun n1 => rfire_any x B E L T a dv d (fr + v) false false 0 false ((w.setCell ⟨x, 5, none⟩ (.int .i64 (fr + v))).drewN n1) (HX5.out.drewN n1) (Nat.le_trans hB HO5.out.size) hd)
          clear hk hq
          go_enter Try.func21, Try.ntmps21
          go_wp2
          go_quiet (fail)
          go_wp2_with (go_at_call 36; (with_reducible refine (HF.out _).mono ?_); rintro e w2 ⟨b, dv', rfl, h1, h2, h3⟩; have H1 := Lib.hid h1; have H2 := Lib.hid h2; have H3 := Lib.hid h3; clear h1 h2 h3)
          go_ret2
          exact .some_ (HO5.out.drewN _) H1.out H2.out H3.out
        · rw [if_neg (fun e => hq e.2)]
          have hq' : decide (E ≤ fr + v) = false := decide_eq_false hq
          clear hk hq
          go_enter Try.func21, Try.ntmps21
          go_wp2
          go_quiet (fail)
          go_wp2
          go_quiet (fail)
          go_wp2
          go_ret2
          exact .none_ rfl ((HX5.out.drewN _).drewN _) ((HO5.out.drewN _).drewN _)

set_option maxRecDepth 100000 in
set_option maxHeartbeats 4000000 in
theorem rpass_any (x B : Nat) (E L T : Int) (a : Bool) (dv : Value) (d : List Inf) (fr : Int) (p c : Bool) (w : World) (h : Xc w x B E L T a dv d fr p c) (hB : B ≤ w.heap.size) (hd : (d.length + 1) * 24 ≤ 140737488355328) (hpc : p = false → c = false) :
    Calls Try.prog 22 #[.pointer (some ⟨x, 0, none⟩)] w (RStOut x B E L T a dv d (passP T d.length fr p c) w) := by
  unfold passP
  have hc := h.cells
  have c0 := cells_at hc 0 (.int .i64 E) rfl
  have c1 := cells_at hc 1 (.int .i64 L) rfl
  have c2 := cells_at hc 2 (.int .i64 T) rfl
  have c5 := cells_at hc 5 (.int .i64 fr) rfl
  have c6 := cells_at hc 6 (.bool p) rfl
  have c7 := cells_at hc 7 (.bool c) rfl
  have cf := cells_f hc
  have hxl := cell_lt hc
  have HX := Lib.hid h
  clear hc h
  cases p with
  | true =>
    rw [if_pos rfl]
    go_enter Try.func22, Try.ntmps22
    go_wp2
    go_ret2
    exact .none_ rfl HX.out (OnlyR.refl _ _ _)
  | false =>
    rw [if_neg (fun e => by cases e)]
    obtain rfl := hpc rfl
    by_cases ht : T = 0
    · subst ht
      have HF := Lib.hid (rfire_any x B E L 0 a dv d fr true true 1 true _ ((HX.out.set6 true).set7 true) (by simpa [World.setCell] using hB) hd)
      have HO : Hid (OnlyR x dv w ((w.setCell ⟨x, 6, none⟩ (.bool true)).setCell ⟨x, 7, none⟩ (.bool true))) := Lib.hid (((OnlyR.refl x dv w).set_ (p := ⟨x, 6, none⟩) (.inl rfl) _).set_ (p := ⟨x, 7, none⟩) (.inl rfl) _)
      go_enter Try.func22, Try.ntmps22
      go_wp2_with (go_at_call 36; (with_reducible refine HF.out.mono ?_); rintro e w2 ⟨b, dv', rfl, h1, h2, h3⟩; have H1 := Lib.hid h1; have H2 := Lib.hid h2; have H3 := Lib.hid h3; clear h1 h2 h3)
      go_ret2
      exact .some_ HO.out H1.out H2.out H3.out
    · have hz : (T == 0) = false := by simp [ht]
      rw [hz]
      have HF := Lib.hid (rfire_any x B E L T a dv d fr true false 1 false _ (HX.out.set6 true) (by simpa [World.setCell] using hB) hd)
      have HO : Hid (OnlyR x dv w (w.setCell ⟨x, 6, none⟩ (.bool true))) := Lib.hid ((OnlyR.refl x dv w).set_ (p := ⟨x, 6, none⟩) (.inl rfl) _)
      clear ht
      go_enter Try.func22, Try.ntmps22
      go_wp2_with (go_at_call 36; (with_reducible refine HF.out.mono ?_); rintro e w2 ⟨b, dv', rfl, h1, h2, h3⟩; have H1 := Lib.hid h1; have H2 := Lib.hid h2; have H3 := Lib.hid h3; clear h1 h2 h3)
      go_ret2
      exact .some_ HO.out H1.out H2.out H3.out

set_option maxRecDepth 100000 in
set_option maxHeartbeats 4000000 in
theorem rclose_any (x B : Nat) (E L T : Int) (a : Bool) (dv : Value) (d : List Inf) (fr : Int) (p c : Bool) (w : World) (h : Xc w x B E L T a dv d fr p c) (hB : B ≤ w.heap.size) (hd : (d.length + 1) * 24 ≤ 140737488355328) (hf : 0 ≤ fr) :
    Calls Try.prog 23 #[.pointer (some ⟨x, 0, none⟩)] w (RStOut x B E L T a dv d (closeP d.length fr p c) w) := by
  unfold closeP
  have hc := h.cells
  have c0 := cells_at hc 0 (.int .i64 E) rfl
  have c1 := cells_at hc 1 (.int .i64 L) rfl
  have c2 := cells_at hc 2 (.int .i64 T) rfl
  have c5 := cells_at hc 5 (.int .i64 fr) rfl
  have c6 := cells_at hc 6 (.bool p) rfl
  have c7 := cells_at hc 7 (.bool c) rfl
  have cf := cells_f hc
  have hxl := cell_lt hc
  have HX := Lib.hid h
  clear hc h
  cases p with
  | false =>
    rw [if_pos (fun e => by cases e)]
    go_enter Try.func23, Try.ntmps23
    go_wp2
    go_ret2
    exact .none_ rfl HX.out (OnlyR.refl _ _ _)
  | true =>
    rw [if_neg (fun e => e rfl)]
    cases c with
    | true =>
      rw [if_pos rfl]
      go_enter Try.func23, Try.ntmps23
      go_wp2
      go_ret2
      exact .none_ rfl HX.out (OnlyR.refl _ _ _)
    | false =>
      rw [if_neg (fun e => by cases e)]
      have HO : Hid (OnlyR x dv w (w.setCell ⟨x, 7, none⟩ (.bool true))) := Lib.hid ((OnlyR.refl x dv w).set_ (p := ⟨x, 7, none⟩) (.inl rfl) _)
      by_cases hz : fr = 0
      · subst hz
        rw [if_pos rfl]
        go_enter Try.func23, Try.ntmps23
        go_wp2
        go_ret2
        exact .none_ rfl (HX.out.set7 true) HO.out
      · rw [if_neg hz]
        have hp : decide (0 < fr) = true := decide_eq_true (by omega)
        have HF := Lib.hid (rfire_any x B E L T a dv d fr true true 2 true _ (HX.out.set7 true) (by simpa [World.setCell] using hB) hd)
        clear hz
        go_enter Try.func23, Try.ntmps23
        go_wp2_with (go_at_call 36; (with_reducible refine HF.out.mono ?_); rintro e w2 ⟨b, dv', rfl, h1, h2, h3⟩; have H1 := Lib.hid h1; have H2 := Lib.hid h2; have H3 := Lib.hid h3; clear h1 h2 h3)
        go_ret2
        exact .some_ HO.out H1.out H2.out H3.out

end Go.Proofs.Ytoplkinlgneidaa
