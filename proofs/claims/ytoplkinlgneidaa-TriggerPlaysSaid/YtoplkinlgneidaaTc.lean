/-
Add that fires, Pass, Close, Join, State; awake.
-/
import Derived.Test.YtoplkinlgneidaaTb
set_option linter.unusedVariables false
namespace Go.Proofs.Ytoplkinlgneidaa
open Go.RowKit

/-- A call that fires. -/
def Fired (m g : Nat) (E L T : Int) (a : Bool) (n s : Int) (p c : Bool) (x : Inf) (w : World) (e : Ending) (w' : World) : Prop :=
  ∃ b, e = .returned (.tuple #[.slice (some ⟨b, 0, none⟩) 1 1, .int .i64 0]) ∧ One w.heap.size w' b x ∧ Mc w' m g E L T a n s 0 p c ∧ Only2 m g w w'

theorem fired_of {m g : Nat} {E L T : Int} {a : Bool} {n s : Int} {p c : Bool} {x : Inf} {w wa w' : World} {b : Nat} (ho : Only2 m g w wa) (h1 : One wa.heap.size w' b x) (h2 : Mc w' m g E L T a n s 0 p c) (h3 : Only2 m g wa w') :
    Fired m g E L T a n s p c x w (.returned (.tuple #[.slice (some ⟨b, 0, none⟩) 1 1, .int .i64 0])) w' :=
  ⟨b, rfl, ⟨Nat.le_trans ho.size h1.1, h1.2⟩, h2, ho.trans h3⟩

set_option maxRecDepth 100000 in
set_option maxHeartbeats 2000000 in
theorem add_fire (m g : Nat) (E L T : Int) (a : Bool) (n s fr : Int) (p : Bool) (v : Int) (w : World) (h : Mc w m g E L T a n s fr p false) (hn : 0 ≤ n) (hn2 : n < 4611686018427387904) (hv : 1 ≤ v ∧ v ≤ 1000) (hf : 0 ≤ fr) (hf2 : fr ≤ 4611686018427387904) (hq : ¬ lim E L p = 0 ∧ lim E L p ≤ fr + v) (ho : okF s (if p = true then 2 else 0)) :
    Calls Try.prog 14 #[.pointer (some ⟨m, 0, none⟩), .int .i64 v] w (Fired m g E L T a (n + 1) (stF (if p = true then 2 else 0) false) p false (n, (if p = true then 2 else 0), false) w) := by
  have HW := fun w => Lib.hid (within_yes v 1 1000 w hv)
  have HS := fun w => Lib.hid (sum_any fr v w hf hf2 (by omega) (by omega))
  have hc := h.cells
  have c0 := cells_at hc 0 (.int .i64 E) rfl
  have c1 := cells_at hc 1 (.int .i64 L) rfl
  have c5 := cells_at hc 5 (.int .i64 fr) rfl
  have c6 := cells_at hc 6 (.bool p) rfl
  have c7 := cells_at hc 7 (.bool false) rfl
  have cf := cells_f hc
  have hml := cell_lt hc
  have HM := Lib.hid h
  clear hc h hv hf hf2
  have hend : Mc (w.setCell ⟨m, 5, none⟩ (.int .i64 (fr + v))).drew m g E L T a n s (fr + v) p false ∧ Only2 m g w (w.setCell ⟨m, 5, none⟩ (.int .i64 (fr + v))).drew :=
    ⟨⟨HM.out.ne, mc_set5 HM.out.cells _, heap_set_some (fun e => HM.out.ne e.symm) HM.out.line⟩, ((Only2.refl m g w).set_ (p := ⟨m, 5, none⟩) (.inl rfl) _).drewN 1⟩
  have hend2 : Mc (w.setCell ⟨m, 5, none⟩ (.int .i64 (fr + v))).drew.drew m g E L T a n s (fr + v) p false ∧ Only2 m g w (w.setCell ⟨m, 5, none⟩ (.int .i64 (fr + v))).drew.drew :=
    ⟨⟨HM.out.ne, mc_set5 HM.out.cells _, heap_set_some (fun e => HM.out.ne e.symm) HM.out.line⟩, ((Only2.refl m g w).set_ (p := ⟨m, 5, none⟩) (.inl rfl) _).drewN 2⟩
  have HEND := Lib.hid hend
  have HEND2 := Lib.hid hend2
  clear hend hend2
  cases p with
  | true =>
    have hq1 : ¬ L = 0 := hq.1
    have hq2 : L ≤ fr + v := hq.2
    have d1 : (L == 0) = false := by simp [hq1]
    have d2 : decide (fr + v < L) = false := decide_eq_false (by omega)
    have HF := Lib.hid (tfire_any m g E L T a n s (fr + v) true false 2 false _ HEND2.out.1 hn hn2 ho)
    clear hq hq1 hq2 ho
    go_enter Try.func14, Try.ntmps14
    go_wp2_with (first
      | (go_at_call 20; (with_reducible refine (HW _).out.mono ?_); rintro e w1 ⟨rfl, rfl⟩)
      | (go_at_call 28; (with_reducible refine (HS _).out.mono ?_); rintro e w1 ⟨rfl, rfl⟩))
    go_region
    go_wp2
    go_region
    go_wp2_with (go_at_call 29; (with_reducible refine HF.out.mono ?_); rintro e w2 ⟨b, rfl, hb1, hb2, hb3⟩; have HB1 := Lib.hid hb1; have HB2 := Lib.hid hb2; have HB3 := Lib.hid hb3; clear hb1 hb2 hb3)
    go_ret2
    exact fired_of HEND2.out.2 HB1.out HB2.out HB3.out
  | false =>
    have hq1 : ¬ E = 0 := hq.1
    have hq2 : E ≤ fr + v := hq.2
    have d1 : (E == 0) = false := by simp [hq1]
    have d2 : decide (fr + v < E) = false := decide_eq_false (by omega)
    have HF := Lib.hid (tfire_any m g E L T a n s (fr + v) false false 0 false _ HEND.out.1 hn hn2 ho)
    clear hq hq1 hq2 ho
    go_enter Try.func14, Try.ntmps14
    go_wp2_with (first
      | (go_at_call 20; (with_reducible refine (HW _).out.mono ?_); rintro e w1 ⟨rfl, rfl⟩)
      | (go_at_call 28; (with_reducible refine (HS _).out.mono ?_); rintro e w1 ⟨rfl, rfl⟩))
    go_region
    go_wp2_with (go_at_call 29; (with_reducible refine HF.out.mono ?_); rintro e w2 ⟨b, rfl, hb1, hb2, hb3⟩; have HB1 := Lib.hid hb1; have HB2 := Lib.hid hb2; have HB3 := Lib.hid hb3; clear hb1 hb2 hb3)
    go_ret2
    exact fired_of HEND.out.2 HB1.out HB2.out HB3.out

set_option maxRecDepth 100000 in
theorem pass_bad (m g : Nat) (E L T : Int) (a : Bool) (n s fr : Int) (c : Bool) (w : World) (h : Mc w m g E L T a n s fr true c) :
    Calls Try.prog 15 #[.pointer (some ⟨m, 0, none⟩)] w fun e w' => e = .returned (.tuple #[.slice none 0 0, .int .i64 200]) ∧ w = w' := by
  have c6 := cells_at h.cells 6 (.bool true) rfl
  clear h
  go_enter Try.func15, Try.ntmps15
  go_wp2
  go_ret2
  exact ⟨rfl, rfl⟩

set_option maxRecDepth 100000 in
set_option maxHeartbeats 2000000 in
theorem pass_ok (m g : Nat) (E L T : Int) (a : Bool) (n s fr : Int) (c : Bool) (w : World) (h : Mc w m g E L T a n s fr false c) (hn : 0 ≤ n) (hn2 : n < 4611686018427387904) (ho : okF s 1) (z : Bool) (hz : z = (T == 0)) :
    Calls Try.prog 15 #[.pointer (some ⟨m, 0, none⟩)] w (Fired m g E L T a (n + 1) (stF 1 z) true z (n, 1, z) w) := by
  have hc := h.cells
  have c2 := cells_at hc 2 (.int .i64 T) rfl
  have c6 := cells_at hc 6 (.bool false) rfl
  have c7o := cells_at hc 7 (.bool c) rfl
  have cf := cells_f hc
  have hml := cell_lt hc
  have HM := Lib.hid h
  clear hc h
  have hend : Mc ((w.setCell ⟨m, 6, none⟩ (.bool true)).setCell ⟨m, 7, none⟩ (.bool z)) m g E L T a n s fr true z ∧ Only2 m g w ((w.setCell ⟨m, 6, none⟩ (.bool true)).setCell ⟨m, 7, none⟩ (.bool z)) :=
    ⟨⟨HM.out.ne, mc_set7 (mc_set6 HM.out.cells _) _, heap_set_some (fun e => HM.out.ne e.symm) (heap_set_some (fun e => HM.out.ne e.symm) HM.out.line)⟩, ((Only2.refl m g w).set_ (p := ⟨m, 6, none⟩) (.inl rfl) _).set_ (p := ⟨m, 7, none⟩) (.inl rfl) _⟩
  have HO2 := Lib.hid hend.2
  have HF := Lib.hid (tfire_any m g E L T a n s fr true z 1 z _ hend.1 hn hn2 ho)
  have c7 := cells_at hend.1.cells 7 (.bool z) rfl
  clear hend
  cases z with
  | true =>
    obtain rfl : T = 0 := by simpa using hz.symm
    clear hz
    go_enter Try.func15, Try.ntmps15
    go_wp2_with (go_at_call 29; (with_reducible refine HF.out.mono ?_); rintro e w2 ⟨b, rfl, hb1, hb2, hb3⟩; have HB1 := Lib.hid hb1; have HB2 := Lib.hid hb2; have HB3 := Lib.hid hb3; clear hb1 hb2 hb3)
    go_ret2
    exact fired_of HO2.out HB1.out HB2.out HB3.out
  | false =>
    have hz' : (T == 0) = false := hz.symm
    clear hz
    go_enter Try.func15, Try.ntmps15
    go_wp2_with (go_at_call 29; (with_reducible refine HF.out.mono ?_); rintro e w2 ⟨b, rfl, hb1, hb2, hb3⟩; have HB1 := Lib.hid hb1; have HB2 := Lib.hid hb2; have HB3 := Lib.hid hb3; clear hb1 hb2 hb3)
    go_ret2
    exact fired_of HO2.out HB1.out HB2.out HB3.out

set_option maxRecDepth 100000 in
theorem close_early (m g : Nat) (E L T : Int) (a : Bool) (n s fr : Int) (c : Bool) (w : World) (h : Mc w m g E L T a n s fr false c) :
    Calls Try.prog 16 #[.pointer (some ⟨m, 0, none⟩)] w fun e w' => e = .returned (.tuple #[.slice none 0 0, .int .i64 100]) ∧ w = w' := by
  have c6 := cells_at h.cells 6 (.bool false) rfl
  clear h
  go_enter Try.func16, Try.ntmps16
  go_wp2
  go_ret2
  exact ⟨rfl, rfl⟩

set_option maxRecDepth 100000 in
theorem close_bad (m g : Nat) (E L T : Int) (a : Bool) (n s fr : Int) (w : World) (h : Mc w m g E L T a n s fr true true) :
    Calls Try.prog 16 #[.pointer (some ⟨m, 0, none⟩)] w fun e w' => e = .returned (.tuple #[.slice none 0 0, .int .i64 200]) ∧ w = w' := by
  have c6 := cells_at h.cells 6 (.bool true) rfl
  have c7 := cells_at h.cells 7 (.bool true) rfl
  clear h
  go_enter Try.func16, Try.ntmps16
  go_wp2
  go_ret2
  exact ⟨rfl, rfl⟩

set_option maxRecDepth 100000 in
theorem close_none (m g : Nat) (E L T : Int) (a : Bool) (n s : Int) (w : World) (h : Mc w m g E L T a n s 0 true false) :
    Calls Try.prog 16 #[.pointer (some ⟨m, 0, none⟩)] w fun e w' => e = .returned (.tuple #[.slice none 0 0, .int .i64 0]) ∧ Mc w' m g E L T a n s 0 true true ∧ Only2 m g w w' := by
  have hc := h.cells
  have c5 := cells_at hc 5 (.int .i64 0) rfl
  have c6 := cells_at hc 6 (.bool true) rfl
  have c7 := cells_at hc 7 (.bool false) rfl
  have cf := cells_f hc
  have hml := cell_lt hc
  have HM := Lib.hid h
  clear hc h
  go_enter Try.func16, Try.ntmps16
  go_wp2
  go_ret2
  exact ⟨rfl, ⟨HM.out.ne, mc_set7 HM.out.cells _, heap_set_some (fun e => HM.out.ne e.symm) HM.out.line⟩, (Only2.refl m g w).set_ (p := ⟨m, 7, none⟩) (.inl rfl) _⟩

set_option maxRecDepth 100000 in
theorem close_fire (m g : Nat) (E L T : Int) (a : Bool) (n s fr : Int) (w : World) (h : Mc w m g E L T a n s fr true false) (hn : 0 ≤ n) (hn2 : n < 4611686018427387904) (hf : ¬ fr = 0) (ho : okF s 2) :
    Calls Try.prog 16 #[.pointer (some ⟨m, 0, none⟩)] w (Fired m g E L T a (n + 1) (stF 2 true) true true (n, 2, true) w) := by
  have hc := h.cells
  have c5 := cells_at hc 5 (.int .i64 fr) rfl
  have c6 := cells_at hc 6 (.bool true) rfl
  have c7 := cells_at hc 7 (.bool false) rfl
  have cf := cells_f hc
  have hml := cell_lt hc
  have d1 : (fr == 0) = false := by simp [hf]
  have hM : Mc (w.setCell ⟨m, 7, none⟩ (.bool true)) m g E L T a n s fr true true := ⟨h.ne, mc_set7 hc _, heap_set_some (fun e => h.ne e.symm) h.line⟩
  have HO2 : Hid (Only2 m g w (w.setCell ⟨m, 7, none⟩ (.bool true))) := Lib.hid ((Only2.refl m g w).set_ (p := ⟨m, 7, none⟩) (.inl rfl) _)
  have HF := Lib.hid (tfire_any m g E L T a n s fr true true 2 true _ hM hn hn2 ho)
  clear hc h hM hf
  go_enter Try.func16, Try.ntmps16
  go_wp2_with (go_at_call 29; (with_reducible refine HF.out.mono ?_); rintro e w2 ⟨b, rfl, hb1, hb2, hb3⟩; have HB1 := Lib.hid hb1; have HB2 := Lib.hid hb2; have HB3 := Lib.hid hb3; clear hb1 hb2 hb3)
  go_ret2
  exact fired_of HO2.out HB1.out HB2.out HB3.out

/-- The state of a machine, as it is told. -/
def stV (n s fr : Int) (p c : Bool) : Value := .agg #[.int .i64 n, .int .i64 s, .int .i64 fr, .bool p, .bool c]

set_option maxRecDepth 100000 in
theorem told_no (m g : Nat) (E L T : Int) (a : Bool) (s fr : Int) (c : Bool) (w : World) (h : Mc w m g E L T a 0 s fr false c) :
    Calls Try.prog 27 #[.pointer (some ⟨m, 0, none⟩)] w fun e w' => e = .returned (.bool false) ∧ w = w' := by
  have c4 := cells_at h.cells 4 (.pointer (some ⟨g, 0, none⟩)) rfl
  have c6 := cells_at h.cells 6 (.bool false) rfl
  have HN := Lib.hid (next_any g 0 s w h.line)
  clear h
  go_enter Try.func27, Try.ntmps27
  go_wp2_with (go_at_call 32; (with_reducible refine HN.out.mono ?_); rintro e w2 ⟨rfl, rfl⟩)
  go_ret
  exact ⟨rfl, rfl⟩

set_option maxRecDepth 100000 in
theorem told_yes (m g : Nat) (E L T : Int) (a : Bool) (n s fr : Int) (p c : Bool) (w : World) (h : Mc w m g E L T a n s fr p c) (ht : p = true ∨ ¬ n = 0) :
    Calls Try.prog 27 #[.pointer (some ⟨m, 0, none⟩)] w fun e w' => e = .returned (.bool true) ∧ w = w' := by
  have c4 := cells_at h.cells 4 (.pointer (some ⟨g, 0, none⟩)) rfl
  have c6 := cells_at h.cells 6 (.bool p) rfl
  have HN := Lib.hid (next_any g n s w h.line)
  clear h
  cases p with
  | true =>
    clear ht
    go_enter Try.func27, Try.ntmps27
    go_wp2
    go_ret
    exact ⟨rfl, rfl⟩
  | false =>
    have hn : ¬ n = 0 := ht.resolve_left (by decide)
    have d1 : (n == 0) = false := by simp [hn]
    have d2 : (n != 0) = true := by simp [hn]
    clear ht hn
    go_enter Try.func27, Try.ntmps27
    go_wp2_with (go_at_call 32; (with_reducible refine HN.out.mono ?_); rintro e w2 ⟨rfl, rfl⟩)
    go_ret
    exact ⟨rfl, rfl⟩

end Go.Proofs.Ytoplkinlgneidaa
