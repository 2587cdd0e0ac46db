/-
Join, State; awake.
-/
import Derived.Test.YtoplkinlgneidaaTc
import Derived.LaidEqlPtr
set_option linter.unusedVariables false
namespace Go.Proofs.Ytoplkinlgneidaa
open Go.RowKit

set_option maxRecDepth 100000 in
set_option maxHeartbeats 2000000 in
theorem state_any (m g : Nat) (E L T : Int) (a : Bool) (n s fr : Int) (p c : Bool) (w : World) (h : Mc w m g E L T a n s fr p c) :
    Calls Try.prog 18 #[.pointer (some ⟨m, 0, none⟩)] w fun e w' => e = .returned (.agg #[.int .i64 n, .int .i64 s, .int .i64 fr, .bool p, .bool c]) ∧ Below w.heap.size w w' := by
  have hc := h.cells
  have c4 := cells_at hc 4 (.pointer (some ⟨g, 0, none⟩)) rfl
  have c5 := cells_at hc 5 (.int .i64 fr) rfl
  have c6 := cells_at hc 6 (.bool p) rfl
  have c7 := cells_at hc 7 (.bool c) rfl
  have hml := cell_lt hc
  have hl : Ln (w.alloc (.cells #[.int .i64 0, .int .i64 0, .int .i64 0, .bool false, .bool false] 51)).drew g n s := heap_alloc_some h.line
  have HN := Lib.hid (next_any g n s _ hl)
  have HS := Lib.hid (stage_any g n s _ hl)
  clear hl hc h
  go_enter Try.func18, Try.ntmps18
  go_wp2
  go_region_held3 (fun w' => w'.cell? ⟨m, 4, none⟩ = some (.pointer (some ⟨g, 0, none⟩)) ∧ w'.cell? ⟨m, 5, none⟩ = some (.int .i64 fr) ∧ w'.cell? ⟨m, 6, none⟩ = some (.bool p) ∧ w'.cell? ⟨m, 7, none⟩ = some (.bool c))
    ((refine ⟨?_, ?_, ?_, ?_⟩ <;> (repeat' (first | with_reducible assumption | with_reducible refine cell_drew_some ?_ | with_reducible refine cell_alloc_some ?_ | with_reducible refine cell_set_some ?_ ?_ | (dsimp only; omega)))))
    (first
      | (go_at_call 32; (with_reducible refine HN.out.mono ?_); rintro e wc ⟨rfl, rfl⟩)
      | (go_at_call 33; (with_reducible refine HS.out.mono ?_); rintro e wc ⟨rfl, rfl⟩)
      | fail)
  go_wp2
  refine bodyPost_ret (v := .agg #[.int .i64 n, .int .i64 s, .int .i64 fr, .bool p, .bool c]) (by simp [results, Try.results18, go_sem]) rfl ?_
  exact ⟨rfl, below_drew_some ((Below.refl _ w).alloc (Nat.le_refl _) _)⟩

theorem Try.infoM : ∃ j, Try.prog.info? 67 = some j ∧ j.size ≠ 0 := by
  have h : (Try.prog.info? 67).map (fun i => i.size) = some 8 := by kernel_rfl
  cases hi : Try.prog.info? 67 with
  | none => rw [hi] at h; cases h
  | some j => rw [hi] at h; injection h with h; have h : j.size = 8 := h; exact ⟨j, rfl, by rw [h]; decide⟩

theorem Try.ptr_same (w : World) (m : Nat) : (binOp .eql 25 (.pointer (some ⟨m, 0, none⟩)) (.pointer (some ⟨m, 0, none⟩))).run Try.prog w = .ok (.bool true) w := by
  obtain ⟨j, hj, _⟩ := Try.infoM
  exact run_eql_ptr_same w ⟨m, 0, none⟩ Try.underlying25 hj

theorem Try.ptr_other (w : World) (m k : Nat) (hne : m ≠ k) {ca cb : Array Value} {ta tb : TypeId} (ha : w.heap[m]? = some (.cells ca ta (0, 0))) (hb : w.heap[k]? = some (.cells cb tb (0, 0))) : (binOp .eql 25 (.pointer (some ⟨m, 0, none⟩)) (.pointer (some ⟨k, 0, none⟩))).run Try.prog w = .ok (.bool false) w := by
  obtain ⟨j, hj, hs⟩ := Try.infoM
  exact run_eql_ptr_other w Try.underlying25 hj hs (by intro e; injection e with e; exact hne e) ha hb

set_option maxRecDepth 100000 in
theorem join_self (m : Nat) (w : World) :
    Calls Try.prog 13 #[.pointer (some ⟨m, 0, none⟩), .pointer (some ⟨m, 0, none⟩)] w fun e w' => e = .returned (.int .i64 100) ∧ w = w' := by
  have he := fun w' => Try.ptr_same w' m
  go_enter Try.func13, Try.ntmps13
  go_wp2
  go_ret
  exact ⟨rfl, rfl⟩

set_option maxRecDepth 100000 in
set_option maxHeartbeats 2000000 in
theorem join_ok (m g : Nat) (E L T : Int) (a : Bool) (s fr : Int) (c : Bool) (m' g' : Nat) (E' L' T' : Int) (a' : Bool) (s' fr' : Int) (c' : Bool) (w : World)
    (h : Mc w m g E L T a 0 s fr false c) (h' : Mc w m' g' E' L' T' a' 0 s' fr' false c') (hne : m ≠ m') (hf : 0 ≤ fr) (hf2 : fr ≤ 4611686018427387904) (hv : 0 ≤ fr') (hv2 : fr' ≤ 4611686018427387900) :
    Calls Try.prog 13 #[.pointer (some ⟨m, 0, none⟩), .pointer (some ⟨m', 0, none⟩)] w fun e w' => e = .returned (.int .i64 0) ∧ Mc w' m g E L T a 0 s (fr + fr') false c ∧ Only2 m g w w' := by
  have HT1 := Lib.hid (told_no m g E L T a s fr c w h)
  have HT2 := Lib.hid (told_no m' g' E' L' T' a' s' fr' c' w h')
  have HS := fun w => Lib.hid (sum_any fr fr' w hf hf2 hv hv2)
  have hc := h.cells
  have hc' := h'.cells
  have c5 := cells_at hc 5 (.int .i64 fr) rfl
  have d5 := cells_at hc' 5 (.int .i64 fr') rfl
  have cf := cells_f hc
  have hml := cell_lt hc
  have hml' := cell_lt hc'
  have HM := Lib.hid h
  have he := Try.ptr_other w m m' hne hc hc'
  clear hc hc' h h' hf hf2 hv hv2
  go_enter Try.func13, Try.ntmps13
  go_wp2_with (first
    | (go_at_call 27; (with_reducible refine HT1.out.mono ?_); rintro e w1 ⟨rfl, rfl⟩)
    | (go_at_call 27; (with_reducible refine HT2.out.mono ?_); rintro e w1 ⟨rfl, rfl⟩))
  go_region_with (go_at_call 28; (with_reducible refine (HS _).out.mono ?_); rintro e w1 ⟨rfl, rfl⟩)
  all_goals
    go_wp2
    go_ret
    exact ⟨rfl, ⟨HM.out.ne, mc_set5 HM.out.cells _, heap_set_some (fun e => HM.out.ne e.symm) HM.out.line⟩, ((Only2.refl m g w).set_ (p := ⟨m, 5, none⟩) (.inl rfl) _).drewN 1⟩

set_option maxRecDepth 100000 in
theorem join_no1 (m g : Nat) (E L T : Int) (a : Bool) (n s fr : Int) (p c : Bool) (m' : Nat) (w : World) {cb : Array Value} {tb : TypeId} (hb : w.heap[m']? = some (.cells cb tb (0, 0)))
    (h : Mc w m g E L T a n s fr p c) (hne : m ≠ m') (ht : p = true ∨ ¬ n = 0) :
    Calls Try.prog 13 #[.pointer (some ⟨m, 0, none⟩), .pointer (some ⟨m', 0, none⟩)] w fun e w' => e = .returned (.int .i64 100) ∧ w = w' := by
  have HT1 := Lib.hid (told_yes m g E L T a n s fr p c w h ht)
  have he := Try.ptr_other w m m' hne h.cells hb
  clear h ht hb
  go_enter Try.func13, Try.ntmps13
  go_wp2_with (go_at_call 27; (with_reducible refine HT1.out.mono ?_); rintro e w1 ⟨rfl, rfl⟩)
  go_ret
  exact ⟨rfl, rfl⟩

set_option maxRecDepth 100000 in
theorem join_no2 (m g : Nat) (E L T : Int) (a : Bool) (s fr : Int) (c : Bool) (m' g' : Nat) (E' L' T' : Int) (a' : Bool) (n' s' fr' : Int) (p' c' : Bool) (w : World)
    (h : Mc w m g E L T a 0 s fr false c) (h' : Mc w m' g' E' L' T' a' n' s' fr' p' c') (hne : m ≠ m') (ht : p' = true ∨ ¬ n' = 0) :
    Calls Try.prog 13 #[.pointer (some ⟨m, 0, none⟩), .pointer (some ⟨m', 0, none⟩)] w fun e w' => e = .returned (.int .i64 100) ∧ w = w' := by
  have HT1 := Lib.hid (told_no m g E L T a s fr c w h)
  have HT2 := Lib.hid (told_yes m' g' E' L' T' a' n' s' fr' p' c' w h' ht)
  have he := Try.ptr_other w m m' hne h.cells h'.cells
  clear h h' ht
  go_enter Try.func13, Try.ntmps13
  go_wp2_with (first
    | (go_at_call 27; (with_reducible refine HT1.out.mono ?_); rintro e w1 ⟨rfl, rfl⟩)
    | (go_at_call 27; (with_reducible refine HT2.out.mono ?_); rintro e w1 ⟨rfl, rfl⟩))
  go_ret
  exact ⟨rfl, rfl⟩

set_option maxRecDepth 100000 in
set_option maxHeartbeats 2000000 in
theorem tawake_any (w : World) : Calls Try.prog 11 #[] w fun e w' => e = .returned (.bool true) ∧ Below w.heap.size w w' := by
  have HN := Lib.hid (tnew_yes 2 0 0 false w (by decide))
  have hgu := fun w' => Try.guardI .eql w'
  have hel := fun w' => Try.eqlI w' 0 0 0 0 false false
  go_enter Try.func11, Try.ntmps11
  go_wp2_with (first
    | (go_at_call 8; (with_reducible refine HN.out.mono ?_); rintro e w1 ⟨m, g, rfl, hm, hg, hM, hB⟩; have HA := Lib.hid (add_quiet m g 2 0 0 false 0 0 0 false 1 w1 hM (by decide) (by decide) (by decide) (by decide)); have HB := Lib.hid hB; clear hM hB)
    | (go_at_call 14; (with_reducible refine HA.out.mono ?_); rintro e w2 ⟨rfl, hM, hO⟩; have HA2 := Lib.hid (add_fire m g 2 0 0 false 0 0 (0 + 1) false 1 w2 hM (by decide) (by decide) (by decide) (by decide) (by decide) (by decide) (by decide)); have HO := Lib.hid hO; clear hM hO HA HN)
    | (go_at_call 14; (with_reducible refine HA2.out.mono ?_); rintro e w3 ⟨b, rfl, h1, hM, hO⟩; have hb := h1.2; have b0 := cell3_0 hb; have b1 := cell3_1 hb; have b2 := cell3_2 hb; have hbl := cell_lt hb; have HO3 := Lib.hid hO; clear h1 hb hM hO))
  go_ret
  exact ⟨rfl, HB.out.trans ((HO.out.trans HO3.out).below hm hg HB.out.size)⟩

end Go.Proofs.Ytoplkinlgneidaa
