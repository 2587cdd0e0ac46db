import Derived.Test.YtaecndmncpfpfaaGreatDoorSm
set_option linter.unusedVariables false
set_option linter.unusedSimpArgs false
namespace Go.Proofs.YtaecndmncpfpfaaGreatDoor.L5
open Go.ChangeShapes Go.WideShapes Go.RowKit
theorem cellsT5 : Tryz.prog.cellsOf 24 = 2 := by kernel_rfl
theorem cellsN5 : Tryz.prog.cellsOf 27 = 6 := by kernel_rfl
theorem cellsK23 : Tryz.prog.cellsOf 22 = 1 := by kernel_rfl
theorem cellsK26 : Tryz.prog.cellsOf 25 = 1 := by kernel_rfl
set_option maxRecDepth 100000 in
theorem ty_open {H : Type} {enc : TypeId × Value → H} {w : World} {base : Nat} {sp : Nat → Bool} {held : Bool} : ∀ (fuel : Nat) (cs : List Value) (x : DataW H × List MemPlace), DataW.trod enc Tryz.prog w base sp held fuel 24 cs = some x →
    ∃ t, TyAt w (fun _ => True) fuel (.agg cs.toArray) t
 | 0, cs, x, h => by simp [DataW.trod] at h
 | fuel + 1, cs, x, h => by
   obtain ⟨xs, n, hn, hx, hl, hxl, hf⟩ := DataW.trod_struct Tryz.underlying24 h
   obtain rfl : n = fuel := by omega
   rw [cellsT5] at hl
   obtain ⟨c0, c1, rfl⟩ := list_two hl
   obtain ⟨x0, x1, rfl⟩ := list_two hxl
   have f0 : DataW.trod enc Tryz.prog w base sp held n 3 (([c0, c1].drop 0).take (Tryz.prog.cellsOf 3)) = some x0 := hf 0 _ rfl
   have f1 : DataW.trod enc Tryz.prog w base sp held n 22 (([c0, c1].drop 1).take (Tryz.prog.cellsOf 22)) = some x1 := hf 1 _ rfl
   rw [cellsK3] at f0
   rw [cellsK23] at f1
   obtain ⟨k, e0, _, _⟩ := DataW.trod_int Tryz.underlying3 (show DataW.trod enc Tryz.prog w base sp held n 3 [c0] = some x0 from f0)
   simp only [List.cons.injEq, and_true] at e0
   subst e0
   rcases DataW.trod_slice Tryz.underlying22 (show DataW.trod enc Tryz.prog w base sp held n 22 [c1] = some x1 from f1) with ⟨e1, _⟩ | ⟨a, len, cap, elems, rest, n', hn', e1, _, hb, hlc, _, hel, hcell, _⟩
   · simp only [List.cons.injEq, and_true] at e1
     subst e1
     exact ⟨.mk k [], none, 0, rfl, Nat.le_refl _, fun hl => absurd hl (by simp [Ty.args])⟩
   · simp only [List.cons.injEq, and_true] at e1
     subst e1
     rw [cellsT5] at hcell
     have key : ∀ i, i < len → ∃ t, ∃ u0 u1, w.cell? ((a.add (i * 2)).add 0) = some u0 ∧ w.cell? ((a.add (i * 2)).add 1) = some u1 ∧ TyAt w (fun _ => True) n' (.agg #[u0, u1]) t := fun i hi => by
      have h := hcell i hi
      rw [List.getElem?_eq_getElem (by omega)] at h
      obtain ⟨cs', hc, ht⟩ := Option.bind_eq_some_iff.1 h
      obtain ⟨_, hcl, hat⟩ := World.cells?_some hc
      obtain ⟨u0, u1, rfl⟩ := list_two hcl
      obtain ⟨t, hT⟩ := ty_open n' _ _ ht
      exact ⟨t, u0, u1, hat 0 (by omega), hat 1 (by omega), hT⟩
     obtain ⟨l, hll, hP⟩ := pick_list _ len key
     refine ⟨.mk k l, some a, cap, ?_, by show l.length ≤ cap; omega, fun hpos => ?_⟩
     · show Value.agg #[.int .i64 k, .slice (some a) len cap] = Value.agg #[.int .i64 k, .slice (some a) l.length cap]
       rw [hll]
     · have hp : 0 < len := by have : 0 < l.length := hpos; omega
       obtain ⟨_, u0, _, h0, _⟩ := key 0 hp
       have ha := spot_none h0
       have ha' : (a.add (0 * 2)).add 0 = a := by simp [Addr.add]
       rw [ha'] at ha
       refine ⟨a.block, a.off, by rw [← ha], trivial, fun j t hj => ?_⟩
       have hj' : l[j]? = some t := hj
       obtain ⟨u0, u1, h0, h1, hT⟩ := hP j t hj'
       rw [ha] at h0 h1
       refine ⟨u0, u1, ?_, ?_, TyAt.more n' n _ _ (by omega) hT⟩
       · rw [add_two0] at h0; exact h0
       · rw [add_two1] at h1; exact h1
set_option maxRecDepth 100000 in
theorem nd_open {H : Type} {enc : TypeId × Value → H} {w : World} {base : Nat} {sp : Nat → Bool} {held : Bool} : ∀ (fuel : Nat) (cs : List Value) (x : DataW H × List MemPlace), DataW.trod enc Tryz.prog w base sp held fuel 27 cs = some x →
    ∃ n, NdAt w (fun _ => True) fuel (.agg cs.toArray) n ∧ IntN fuel n
 | 0, cs, x, h => by simp [DataW.trod] at h
 | fuel + 1, cs, x, h => by
   obtain ⟨xs, n, hn, hx, hl, hxl, hf⟩ := DataW.trod_struct Tryz.underlying27 h
   obtain rfl : n = fuel := by omega
   rw [cellsN5] at hl
   obtain ⟨c0, c1, c2, c3, c4, c5, rfl⟩ := list_six hl
   obtain ⟨x0, x1, x2, x3, x4, rfl⟩ := list_five hxl
   have f0 : DataW.trod enc Tryz.prog w base sp held n 9 (([c0, c1, c2, c3, c4, c5].drop 0).take (Tryz.prog.cellsOf 9)) = some x0 := hf 0 _ rfl
   have f1 : DataW.trod enc Tryz.prog w base sp held n 3 (([c0, c1, c2, c3, c4, c5].drop 1).take (Tryz.prog.cellsOf 3)) = some x1 := hf 1 _ rfl
   have f2 : DataW.trod enc Tryz.prog w base sp held n 9 (([c0, c1, c2, c3, c4, c5].drop 2).take (Tryz.prog.cellsOf 9)) = some x2 := hf 2 _ rfl
   have f3 : DataW.trod enc Tryz.prog w base sp held n 24 (([c0, c1, c2, c3, c4, c5].drop 3).take (Tryz.prog.cellsOf 24)) = some x3 := hf 3 _ rfl
   have f4 : DataW.trod enc Tryz.prog w base sp held n 25 (([c0, c1, c2, c3, c4, c5].drop 5).take (Tryz.prog.cellsOf 25)) = some x4 := hf 4 _ rfl
   rw [cellsK9] at f0 f2
   rw [cellsK3] at f1
   rw [cellsT5] at f3
   rw [cellsK26] at f4
   obtain ⟨o, e0, _, _⟩ := DataW.trod_string Tryz.underlying9 (show DataW.trod enc Tryz.prog w base sp held n 9 [c0] = some x0 from f0)
   obtain ⟨i, e1, _, hi⟩ := DataW.trod_int Tryz.underlying3 (show DataW.trod enc Tryz.prog w base sp held n 3 [c1] = some x1 from f1)
   obtain ⟨t, e2, _, _⟩ := DataW.trod_string Tryz.underlying9 (show DataW.trod enc Tryz.prog w base sp held n 9 [c2] = some x2 from f2)
   obtain ⟨ty, hT⟩ := ty_open n [c3, c4] _ (show DataW.trod enc Tryz.prog w base sp held n 24 [c3, c4] = some x3 from f3)
   obtain ⟨A, c, e3⟩ := hT.form
   simp only [List.cons.injEq, and_true] at e0 e1 e2
   subst e0; subst e1; subst e2
   injection e3 with e3
   have e3' := congrArg Array.toList e3
   simp only [List.cons.injEq, and_true] at e3'
   obtain ⟨rfl, rfl⟩ := e3'
   obtain ⟨hi0, hi1⟩ := wf_range hi
   have hform : ∀ (K : Option Addr) (m k : Nat), (Value.agg [.string o, .int .i64 i, .string t, .int .i64 ty.kind, .slice A ty.args.length c, .slice K m k].toArray) = .agg #[.string ⟨(bl o).toArray⟩, .int .i64 i, .string ⟨(bl t).toArray⟩, .int .i64 ty.kind, .slice A ty.args.length c, .slice K m k] := fun K m k => by rw [str_bl', str_bl']
   rcases DataW.trod_slice Tryz.underlying25 (show DataW.trod enc Tryz.prog w base sp held n 25 [c5] = some x4 from f4) with ⟨e5, _⟩ | ⟨a, len, cap, elems, rest, n', hn', e5, _, hb, hlc, _, hel, hcell, _⟩
   · simp only [List.cons.injEq, and_true] at e5
     subst e5
     exact ⟨.mk (bl o) i (bl t) ty [], ⟨A, c, none, 0, hform none 0 0, ⟨_, hT⟩, Nat.le_refl _, fun hl => absurd hl (by simp [Nd.kids])⟩, hi0, hi1, fun k hk => by cases hk⟩
   · simp only [List.cons.injEq, and_true] at e5
     subst e5
     rw [cellsN5] at hcell
     have key : ∀ i, i < len → ∃ t, ∃ u0 u1 u2 u3 u4 u5, w.cell? ((a.add (i * 6)).add 0) = some u0 ∧ w.cell? ((a.add (i * 6)).add 1) = some u1 ∧ w.cell? ((a.add (i * 6)).add 2) = some u2 ∧ w.cell? ((a.add (i * 6)).add 3) = some u3 ∧ w.cell? ((a.add (i * 6)).add 4) = some u4 ∧ w.cell? ((a.add (i * 6)).add 5) = some u5 ∧ NdAt w (fun _ => True) n' (.agg #[u0, u1, u2, u3, u4, u5]) t ∧ IntN n' t := fun i hi => by
      have h := hcell i hi
      rw [List.getElem?_eq_getElem (by omega)] at h
      obtain ⟨cs', hc, ht⟩ := Option.bind_eq_some_iff.1 h
      obtain ⟨_, hcl, hat⟩ := World.cells?_some hc
      obtain ⟨u0, u1, u2, u3, u4, u5, rfl⟩ := list_six hcl
      obtain ⟨t, hT, hI⟩ := nd_open n' _ _ ht
      exact ⟨t, u0, u1, u2, u3, u4, u5, hat 0 (by omega), hat 1 (by omega), hat 2 (by omega), hat 3 (by omega), hat 4 (by omega), hat 5 (by omega), hT, hI⟩
     obtain ⟨l, hll, hP⟩ := pick_list _ len key
     refine ⟨.mk (bl o) i (bl t) ty l, ⟨A, c, some a, cap, ?_, ⟨_, hT⟩, by show l.length ≤ cap; omega, fun hpos => ?_⟩, hi0, hi1, fun k hk => ?_⟩
     · rw [hform]
       show _ = Value.agg #[.string ⟨(bl o).toArray⟩, .int .i64 i, .string ⟨(bl t).toArray⟩, .int .i64 ty.kind, .slice A ty.args.length c, .slice (some a) l.length cap]
       rw [hll]
     · have hp : 0 < len := by have : 0 < l.length := hpos; omega
       obtain ⟨_, u0, _, _, _, _, _, h0, _⟩ := key 0 hp
       have ha := spot_none h0
       have ha' : (a.add (0 * 6)).add 0 = a := by simp [Addr.add]
       rw [ha'] at ha
       refine ⟨a.block, a.off, by rw [← ha], trivial, fun j t hj => ?_⟩
       have hj' : l[j]? = some t := hj
       obtain ⟨u0, u1, u2, u3, u4, u5, h0, h1, h2, h3, h4, h5, hT, _⟩ := hP j t hj'
       rw [ha] at h0 h1 h2 h3 h4 h5
       rw [add_six] at h0 h1 h2 h3 h4 h5
       exact ⟨u0, u1, u2, u3, u4, u5, h0, h1, h2, h3, h4, h5, NdAt.more n' n _ _ (by omega) hT⟩
     · obtain ⟨j, hj⟩ := List.getElem?_of_mem hk
       obtain ⟨_, _, _, _, _, _, _, _, _, _, _, _, _, hI⟩ := hP j k hj
       exact IntN.more n' n k (by omega) hI
set_option maxRecDepth 100000 in
set_option maxHeartbeats 1000000 in
theorem flat_any : ∀ (dep d : Nat) (S : Nat → Prop) (L : Nat) (v : Value) (t : Ty) (l : Int) (w : World), dep ≤ 30 → TyAt w S d v t → (∀ b, S b → b ≠ L) → w.heap[L]? = some (.cells #[.int .i64 l] 3 (0, 0)) → 0 ≤ l → l ≤ 5000 →
    Calls Tryz.prog 21 #[v, .pointer (some ⟨L, 0, none⟩), .int .i64 (dep : Int)] w fun e w' => SmOut dep t l L e w' ∧ Only L w w'
 | dep, 0, S, L, v, t, l, w, _, hT, _, _, _, _ => hT.elim
 | dep, d + 1, S, L, v, t, l, w, hdep, hT, hS, hL, hl0, hl1 => by
   have HT := Lib.hid hT
   have HS := Lib.hid hS
   have IH := fun (dep : Nat) => flat_any dep d
   have HIH := Lib.hid IH
   obtain ⟨A, c, rfl, hlc, hA⟩ := hT
   have HA := Lib.hid hA
   have hLl := zC hL
   have c0 := cell1_0 hL
   have f0 := zB hL 0
   clear hA hS IH
   by_cases hlz : l = 0
   · subst hlz
     go_enter Tryz.func21, Tryz.ntmps21
     go_wp2_with (fail)
     go_ret
     exact ⟨⟨false, -1, rfl, (Below.heap_alloc _ _ _ (by simpa [World.setCell] using hLl)).trans (one_stored hL _), by omega, by omega, by simp⟩, yJ (Only.set_ L 0 w _) _⟩
   · obtain ⟨m, rfl⟩ : ∃ m, l = m + 1 := ⟨l - 1, by omega⟩
     have hm0 : 0 ≤ m := by omega
     have hmd : decide (m < 0) = false := by simp; omega
     by_cases hdz : dep = 0
     · subst hdz
       go_enter Tryz.func21, Tryz.ntmps21
       go_wp2_with (fail)
       go_ret
       exact ⟨⟨false, m, rfl, (Below.heap_alloc _ _ _ (by simpa [World.setCell] using hLl)).trans (one_stored hL _), by omega, by omega, by simp⟩, yJ (Only.set_ L 0 w _) _⟩
     · obtain ⟨dp, rfl⟩ : ∃ dp, dep = dp + 1 := ⟨dep - 1, by omega⟩
       rw [show ((dp + 1 : Nat) : Int) = (dp : Int) + 1 by omega]
       have hd0 : (((dp : Int) + 1) == 0) = false := by simp; omega
       go_enter Tryz.func21, Tryz.ntmps21
       go_wp2_with (fail)
       go_loopw [25] (fun i wr => ∃ (j : Nat) (l' : Int), i = .int .i64 j ∧ j ≤ t.args.length ∧ wr.heap[L]? = some (.cells #[.int .i64 l'] 3 (0, 0)) ∧ 0 ≤ l' ∧ l' + j ≤ m ∧ Only L w wr ∧ Hid (∀ a ∈ t.args.take j, Nar dp a)) (fun i _ => 6000 - (intOf i).toNat)
       case atStart => exact ⟨0, m, rfl, by omega, (Below.heap_alloc _ _ _ (by simpa [World.setCell] using hLl)).trans (one_stored hL _), hm0, by omega, yJ (Only.set_ L 0 w _) _, fun a ha => by simp at ha⟩
       case round =>
        obtain ⟨j, l', rfl, hj, hLr, hl'0, hl'j, hor, HN⟩ := hrel
        by_cases hlt : j < t.args.length
        · obtain ⟨b, o, rfl, hSb, hcells⟩ := HA.out (by omega)
          obtain ⟨u0, u1, h0, h1, h2⟩ := hcells j _ (List.getElem?_eq_getElem hlt)
          have hbl := World.block_lt_of_cell? w _ h0
          have hbne := HS.out b hSb
          obtain ⟨A', c', he'⟩ := h2.form
          injection he' with he'
          obtain ⟨rfl, rfl⟩ : u0 = .int .i64 (t.args[j]).kind ∧ u1 = .slice A' (t.args[j]).args.length c' := by
           have := congrArg Array.toList he'
           simpa using this
          have hbk : wr.heap[b]? = w.heap[b]? := hor.block b hbl (by simpa using hbne)
          have k0 := (World.cell?_of_block (a := ⟨b, o + j * 2, none⟩) hbk).trans h0
          have k1 := (World.cell?_of_block (a := ⟨b, o + j * 2 + 1, none⟩) hbk).trans h1
          have hts : t.args.take (j + 1) = t.args.take j ++ [t.args[j]] := by rw [List.take_add_one, List.getElem?_eq_getElem hlt]; rfl
          have HTS := Lib.hid hts
          generalize t.args[j] = a at *
          have H2 := Lib.hid (h2.only HS.out hor)
          clear h0 h1 h2 hts hcells he' hbk
          go_wp2_with (fail)
          refine (HIH.out dp S L _ a l' _ (by omega) (H2.out.below ((Below.refl _ wr).alloc (Nat.le_refl _) _)) HS.out ((Below.heap_alloc wr _ L (zC hLr)).trans hLr) hl'0 (by omega)).mono ?_
          rintro e w3 ⟨⟨bb, l2, rfl, hL3, h21, h22, h23⟩, ho3⟩
          have ho3' := (yJ hor _).trans ho3
          cases bb with
          | false =>
            go_wp2
            go_ret
            exact ⟨⟨false, l2, rfl, hL3, by omega, by omega, by simp⟩, ho3'⟩
          | true =>
            obtain ⟨h24, h25⟩ := h23 rfl
            go_wp2
            go_roundw
            case rel => exact ⟨j + 1, l2, by go_num, by omega, hL3, h24, by omega, ho3', by
             show ∀ a ∈ t.args.take (j + 1), Nar dp a
             rw [HTS.out]
             intro x hx
             rcases List.mem_append.1 hx with hx | hx
             · exact HN.out x hx
             · simp at hx; subst hx; exact h25⟩
            case measure => simp [intOf]; omega
        · obtain rfl : j = t.args.length := by omega
          have hN : ∀ a ∈ t.args, Nar dp a := by have := HN.out; rwa [List.take_length] at this
          go_wp2
          go_ret
          exact ⟨⟨true, l', rfl, hLr, by omega, by omega, fun _ => ⟨hl'0, by omega, hN⟩⟩, hor⟩
set_option maxRecDepth 100000 in
set_option maxHeartbeats 1000000 in
theorem few_any : ∀ (dep d : Nat) (S : Nat → Prop) (L : Nat) (v : Value) (t : Nd) (l : Int) (w : World), dep ≤ 60 → NdAt w S d v t → (∀ b, S b → b ≠ L) → w.heap[L]? = some (.cells #[.int .i64 l] 3 (0, 0)) → 0 ≤ l → l ≤ 5000 →
    Calls Tryz.prog 30 #[v, .pointer (some ⟨L, 0, none⟩), .int .i64 (dep : Int)] w fun e w' => FwOut dep t l L e w' ∧ Only L w w'
 | dep, 0, S, L, v, t, l, w, _, hT, _, _, _, _ => hT.elim
 | dep, d + 1, S, L, v, t, l, w, hdep, hT, hS, hL, hl0, hl1 => by
   have HT := Lib.hid hT
   have HS := Lib.hid hS
   have IH := fun (dep : Nat) => few_any dep d
   have HIH := Lib.hid IH
   obtain ⟨A, c, K, kc, rfl, ⟨dt, hty⟩, hlc, hA⟩ := hT
   have HA := Lib.hid hA
   have HTY := Lib.hid hty
   have hLl := zC hL
   have c0 := cell1_0 hL
   have f0 := zB hL 0
   have z0 := str_len t.op
   have z1 := str_len t.text
   obtain ⟨os, hos⟩ : ∃ os, os = ByteArray.mk t.op.toArray := ⟨_, rfl⟩
   obtain ⟨ts, hts⟩ : ∃ ts, ts = ByteArray.mk t.text.toArray := ⟨_, rfl⟩
   rw [← hos] at z0
   rw [← hts] at z1
   rw [← hos, ← hts]
   have HOS := Lib.hid hos
   have HTS0 := Lib.hid hts
   clear hA hS IH hty hos hts
   by_cases hlz : l = 0
   · subst hlz
     go_enter Tryz.func30, Tryz.ntmps30
     go_wp2_with (fail)
     go_ret
     exact ⟨⟨false, -1, rfl, (Below.heap_alloc _ _ _ (by simpa [World.setCell] using hLl)).trans (one_stored hL _), by omega, by omega, by simp⟩, yJ (Only.set_ L 0 w _) _⟩
   · obtain ⟨m, rfl⟩ : ∃ m, l = m + 1 := ⟨l - 1, by omega⟩
     have hm0 : 0 ≤ m := by omega
     have hmd : decide (m < 0) = false := by simp; omega
     by_cases hdz : dep = 0
     · subst hdz
       go_enter Tryz.func30, Tryz.ntmps30
       go_wp2_with (fail)
       go_ret
       exact ⟨⟨false, m, rfl, (Below.heap_alloc _ _ _ (by simpa [World.setCell] using hLl)).trans (one_stored hL _), by omega, by omega, by simp⟩, yJ (Only.set_ L 0 w _) _⟩
     · obtain ⟨dp, rfl⟩ : ∃ dp, dep = dp + 1 := ⟨dep - 1, by omega⟩
       rw [show ((dp + 1 : Nat) : Int) = (dp : Int) + 1 by omega]
       have hd0 : (((dp : Int) + 1) == 0) = false := by simp; omega
       by_cases ht1 : 10000 < t.text.length
       · have g1 : decide ((10000 : Int) < (ts.size : Int)) = true := by simp; omega
         go_enter Tryz.func30, Tryz.ntmps30
         go_wp2_with (fail)
         go_ret
         exact ⟨⟨false, m, rfl, (Below.heap_alloc _ _ _ (by simpa [World.setCell] using hLl)).trans (one_stored hL _), by omega, by omega, by simp⟩, yJ (Only.set_ L 0 w _) _⟩
       by_cases ho1 : 100 < t.op.length
       · have g1 : decide ((10000 : Int) < (ts.size : Int)) = false := by simp; omega
         have g2 : decide ((100 : Int) < (os.size : Int)) = true := by simp; omega
         go_enter Tryz.func30, Tryz.ntmps30
         go_wp2_with (fail)
         go_ret
         exact ⟨⟨false, m, rfl, (Below.heap_alloc _ _ _ (by simpa [World.setCell] using hLl)).trans (one_stored hL _), by omega, by omega, by simp⟩, yJ (Only.set_ L 0 w _) _⟩
       have g1 : decide ((10000 : Int) < (ts.size : Int)) = false := by simp; omega
       have g2 : decide ((100 : Int) < (os.size : Int)) = false := by simp; omega
       have hne : ∀ b, S b → b ≠ L := HS.out
       have hL1 : Hid (((w.setCell ⟨L, 0, none⟩ (.int .i64 m)).alloc (.cells #[.string os, .int .i64 t.int, .string ts, .int .i64 t.ty.kind, .slice A t.ty.args.length c, .slice K t.kids.length kc] 27)).heap[L]? = some (.cells #[.int .i64 m] 3 (0, 0))) := (Below.heap_alloc _ _ _ (by simpa [World.setCell] using hLl)).trans (one_stored hL _)
       have HO1 : Hid (Only L w ((w.setCell ⟨L, 0, none⟩ (.int .i64 m)).alloc (.cells #[.string os, .int .i64 t.int, .string ts, .int .i64 t.ty.kind, .slice A t.ty.args.length c, .slice K t.kids.length kc] 27))) := yJ (Only.set_ L 0 w _) _
       have hfl := flat_any 30 dt S L _ t.ty m ((w.setCell ⟨L, 0, none⟩ (.int .i64 m)).alloc (.cells #[.string os, .int .i64 t.int, .string ts, .int .i64 t.ty.kind, .slice A t.ty.args.length c, .slice K t.kids.length kc] 27)) (by omega) (HTY.out.only hne HO1.out) hne hL1.out hm0 (by omega)
       have HFL := Lib.hid hfl
       have HC1 : Hid (((w.setCell ⟨L, 0, none⟩ (.int .i64 m)).alloc (.cells #[.string os, .int .i64 t.int, .string ts, .int .i64 t.ty.kind, .slice A t.ty.args.length c, .slice K t.kids.length kc] 27)).heap[w.heap.size]? = some (.cells #[.string os, .int .i64 t.int, .string ts, .int .i64 t.ty.kind, .slice A t.ty.args.length c, .slice K t.kids.length kc] 27 (0, 0))) := heap_new_at (by simp [World.setCell])
       clear z0 z1 hne hfl
       go_enter Tryz.func30, Tryz.ntmps30
       go_wp2_with (fail)
       refine HFL.out.mono ?_
       clear HFL
       rintro e w2 ⟨⟨bb, l1, rfl, hL2, h21, h22, h23⟩, ho2⟩
       have HO2 := Lib.hid (HO1.out.trans ho2)
       have hc2 := (ho2.block w.heap.size (zC HC1.out) (by simp; omega)).trans HC1.out
       have d5 := zL hc2
       have dl := zC hc2
       clear ho2 HO1 hL1 HC1 hc2
       cases bb with
       | false =>
         go_wp2_with (fail)
         go_ret
         exact ⟨⟨false, l1, rfl, hL2, by omega, by omega, by simp⟩, HO2.out⟩
       | true =>
       obtain ⟨h24, h25⟩ := h23 rfl
       have HNT := Lib.hid h25
       clear h23 h25 hL c0 f0 hmd
       have hsz := HO2.out.size
       go_wp2_with (fail)
       go_loopw [44] (fun i wr => ∃ (j : Nat) (l' : Int), i = .int .i64 j ∧ j ≤ t.kids.length ∧ wr.heap[L]? = some (.cells #[.int .i64 l'] 3 (0, 0)) ∧ 0 ≤ l' ∧ l' + j ≤ m ∧ Hid (Only L w wr) ∧ Hid (∀ a ∈ t.kids.take j, FewN dp a)) (fun i _ => 6000 - (intOf i).toNat)
       case atStart => exact ⟨0, l1, rfl, by omega, hL2, h24, by omega, HO2, fun a ha => by simp at ha⟩
       case round =>
        obtain ⟨j, l', rfl, hj, hLr, hl'0, hl'j, HOR, HN⟩ := hrel
        by_cases hlt : j < t.kids.length
        · obtain ⟨b, o, rfl, hSb, hcells⟩ := HA.out (by omega)
          obtain ⟨a, ha⟩ : ∃ a, t.kids[j]? = some a := ⟨_, List.getElem?_eq_getElem hlt⟩
          obtain ⟨A', c', K', k', h0, h1, h2, h3, h4, h5, hnd, hbl⟩ := kid_cells6 hcells ha
          have hbne := HS.out b hSb
          have hbk : wr.heap[b]? = w.heap[b]? := HOR.out.block b hbl (by simpa using hbne)
          have k0 := (World.cell?_of_block (a := ⟨b, o + j * 6, none⟩) hbk).trans h0
          have k1 := (World.cell?_of_block (a := ⟨b, o + j * 6 + 1, none⟩) hbk).trans h1
          have k2 := (World.cell?_of_block (a := ⟨b, o + j * 6 + 2, none⟩) hbk).trans h2
          have k3 := (World.cell?_of_block (a := ⟨b, o + j * 6 + 3, none⟩) hbk).trans h3
          have k4 := (World.cell?_of_block (a := ⟨b, o + j * 6 + 4, none⟩) hbk).trans h4
          have k5 := (World.cell?_of_block (a := ⟨b, o + j * 6 + 5, none⟩) hbk).trans h5
          have HTS : Hid (t.kids.take (j + 1) = t.kids.take j ++ [a]) := by show _ = _; rw [List.take_add_one, ha]; rfl
          have H2 := Lib.hid (hnd.only HS.out HOR.out)
          have hLL := zC hLr
          clear h0 h1 h2 h3 h4 h5 hcells hbk hnd ha
          go_wp2_with (fail)
          refine (HIH.out dp S L _ a l' _ (by omega) (H2.out.below ((Below.refl _ wr).alloc (Nat.le_refl _) _)) HS.out ((Below.heap_alloc wr _ L (zC hLr)).trans hLr) hl'0 (by omega)).mono ?_
          rintro e w3 ⟨⟨bb, l2, rfl, hL3, h21, h22, h23⟩, ho3⟩
          have HO3 := Lib.hid ((yJ HOR.out _).trans ho3)
          clear ho3
          cases bb with
          | false =>
            go_wp2_with (fail)
            go_ret
            exact ⟨⟨false, l2, rfl, hL3, by omega, by omega, by simp⟩, HO3.out⟩
          | true =>
            obtain ⟨h24, h25⟩ := h23 rfl
            have H25 := Lib.hid h25
            clear h23 h25
            go_wp2_with (fail)
            go_roundw
            case rel => exact ⟨j + 1, l2, by go_num, by omega, hL3, h24, by omega, HO3, by
             show ∀ a ∈ t.kids.take (j + 1), FewN dp a
             rw [HTS.out]
             intro x hx
             rcases List.mem_append.1 hx with hx | hx
             · exact HN.out x hx
             · simp at hx; subst hx; exact H25.out⟩
            case measure => simp [intOf]; omega
        · obtain rfl : j = t.kids.length := by omega
          have hN : ∀ a ∈ t.kids, FewN dp a := by have := HN.out; rwa [List.take_length] at this
          have HNN := Lib.hid hN
          clear hN
          go_wp2_with (fail)
          go_ret
          exact ⟨⟨true, l', rfl, hLr, by omega, by omega, fun _ => ⟨hl'0, by omega, by omega, HNT.out, by omega, HNN.out⟩⟩, HOR.out⟩
