import Derived.Test.YtaecndmncpfpfaaGreatDoorCf
namespace Go.Proofs.YtaecndmncpfpfaaGreatDoor
open Go.RowKit
def lastN (called : List UInt8) (names : List (List UInt8 × Ty)) : Option Ty := (names.reverse.find? fun (x : List UInt8 × Ty) => x.1 == called).map (·.2)
theorem lastN_some {called : List UInt8} {names : List (List UInt8 × Ty)} {j : Nat} {x : List UInt8 × Ty} (hx : names[j]? = some x) (hc : x.1 = called) (hl : ∀ (i : Nat) (y : List UInt8 × Ty), j < i → names[i]? = some y → y.1 ≠ called) : lastN called names = some x.2 := by
 obtain ⟨hj, he⟩ := List.getElem?_eq_some_iff.1 hx
 have hs : names = names.take j ++ x :: names.drop (j + 1) := by
  rw [← he, ← List.drop_eq_getElem_cons hj, List.take_append_drop]
 have hn : ((names.drop (j + 1)).reverse.find? fun (x : List UInt8 × Ty) => x.1 == called) = none := by
  refine List.find?_eq_none.2 fun y hy => ?_
  obtain ⟨i, hi⟩ := List.mem_iff_getElem?.1 (List.mem_reverse.1 hy)
  rw [List.getElem?_drop] at hi
  have := hl _ y (by omega) hi
  simpa using this
 unfold lastN
 rw [hs, List.reverse_append, List.reverse_cons, List.append_assoc, List.find?_append, hn]
 simp [hc]
theorem lastN_none {called : List UInt8} {names : List (List UInt8 × Ty)} (hl : ∀ (i : Nat) (y : List UInt8 × Ty), names[i]? = some y → y.1 ≠ called) : lastN called names = none := by
 have hn : (names.reverse.find? fun (x : List UInt8 × Ty) => x.1 == called) = none := by
  refine List.find?_eq_none.2 fun y hy => ?_
  obtain ⟨i, hi⟩ := List.mem_iff_getElem?.1 (List.mem_reverse.1 hy)
  have := hl _ y hi
  simpa using this
 unfold lastN
 rw [hn]
 rfl
set_option maxRecDepth 100000 in
set_option maxHeartbeats 1000000 in
theorem name_any (W : Nat) (P : Nat → Prop) (d : Nat) (it : Ty) (sides : List Ty) (names : List (List UInt8 × Ty)) (NA : Option Addr) (nk : Nat) (at_ : Value) (called : List UInt8) (w : World) (h : WkAt w W P d it sides names NA nk at_) (hlen : names.length ≤ 1000) (hnil : names.length = 0 → NA = none) :
    Calls Tryz.prog 57 #[.pointer (some ⟨W, 0, none⟩), .string ⟨called.toArray⟩] w fun e w' => TyOut 51 w' P d e (lastN called names) ∧ Below w.heap.size w w' := by
 obtain ⟨⟨A, k, SA, sk, hb, _, _⟩, hN, hbd⟩ := h
 have hg0 : ∀ j : Nat, ∃ y : Option Addr × Nat, ∀ x : List UInt8 × Ty, names[j]? = some x → ∃ b o, NA = some ⟨b, o, none⟩ ∧ P b ∧ w.cell? ⟨b, o + j * 3, none⟩ = some (.string ⟨x.1.toArray⟩) ∧ w.cell? ⟨b, o + j * 3 + 1, none⟩ = some (.int .i64 x.2.kind) ∧ w.cell? ⟨b, o + j * 3 + 2, none⟩ = some (.slice y.1 x.2.args.length y.2) ∧ TyAt w P d (.agg #[.int .i64 x.2.kind, .slice y.1 x.2.args.length y.2]) x.2 := fun j => by
  cases hx : names[j]? with
  | none => exact ⟨(none, 0), fun x h => by cases h⟩
  | some x =>
    obtain ⟨b, o, e, hP, hc⟩ := hN (by have := (List.getElem?_eq_some_iff.1 hx).1; omega)
    obtain ⟨u0, u1, h1, h2, h3, h4⟩ := hc j x hx
    obtain ⟨A6, k6, hv⟩ := h4.form
    injection hv with hv
    obtain ⟨rfl, rfl⟩ : u0 = .int .i64 x.2.kind ∧ u1 = .slice A6 x.2.args.length k6 := by
     have := congrArg Array.toList hv
     injection this with e1 e2
     injection e2 with e2 _
     exact ⟨e1, e2⟩
    exact ⟨(A6, k6), fun y hy => by cases hy; exact ⟨b, o, e, hP, h1, h2, h3, h4⟩⟩
 obtain ⟨g, hg⟩ := Classical.axiomOfChoice hg0
 clear hg0
 have hl := zC hb
 obtain ⟨f, hf⟩ : ∃ f : Nat → List UInt8 × Int × Option Addr × Nat × Nat, ∀ j x, names[j]? = some x → f j = (x.1, x.2.kind, (g j).1, x.2.args.length, (g j).2) :=
  ⟨fun j => match names[j]? with | some x => (x.1, x.2.kind, (g j).1, x.2.args.length, (g j).2) | none => ([], 0, none, 0, 0), fun j x h => by simp only [h]⟩
 have hb2 := ((Below.refl w.heap.size w).alloc (Nat.le_refl _) (.cells #[.string ⟨called.toArray⟩] 9)).alloc (by simp) (.cells #[.int .i64 0, .slice none 0 0] 34)
 have h0 := (Below.heap_alloc (w.alloc (.cells #[.string ⟨called.toArray⟩] 9)) (.cells #[.int .i64 0, .slice none 0 0] 34) w.heap.size (by simp)).trans (heap_alloc_new w (.cells #[.string ⟨called.toArray⟩] 9))
 have h1 : ((w.alloc (.cells #[.string ⟨called.toArray⟩] 9)).alloc (.cells #[.int .i64 0, .slice none 0 0] 34)).heap[w.heap.size + 1]? = some (.cells #[.int .i64 0, .slice none 0 0] 34 (0, 0)) := by simpa using heap_alloc_new (w.alloc (.cells #[.string ⟨called.toArray⟩] 9)) (.cells #[.int .i64 0, .slice none 0 0] 34)
 have c3 := zD (i := 3) ((hb2.block W hl).trans hb) rfl
 have cb := zD (i := 0) h0 rfl
 have hs2 := hb2.size
 have hlo : ∀ j x, names[j]? = some x → f j = (x.1, x.2.kind, (g j).1, x.2.args.length, (g j).2) := hf
 have hBN : BnAt ((w.alloc (.cells #[.string ⟨called.toArray⟩] 9)).alloc (.cells #[.int .i64 0, .slice none 0 0] 34)) ((w.alloc (.cells #[.string ⟨called.toArray⟩] 9)).alloc (.cells #[.int .i64 0, .slice none 0 0] 34)).heap.size NA names.length f := fun hp => by
  obtain ⟨b, o, e, hPb, hc⟩ := hN hp
  refine ⟨b, o, e, by have := (hbd b hPb).1; omega, fun j hj => ?_⟩
  obtain ⟨x, hx⟩ : ∃ x, names[j]? = some x := ⟨_, List.getElem?_eq_getElem hj⟩
  obtain ⟨b', o', e', _, k0, k1, k2, _⟩ := hg j x hx
  rw [e] at e'
  injection e' with e'
  injection e' with e1 e2
  subst e1
  subst e2
  have hbl := (hbd b hPb).1
  rw [hf j x hx]
  exact ⟨(hb2.cell (p := ⟨b, _, none⟩) hbl).trans k0, (hb2.cell (p := ⟨b, _, none⟩) hbl).trans k1, (hb2.cell (p := ⟨b, _, none⟩) hbl).trans k2⟩
 have HLO := Lib.hid (lastOf_any w.heap.size called NA names.length nk f hlen hnil _ cb hBN)
 have HB2 := Lib.hid hb2
 have H1 := Lib.hid h1
 have HG := Lib.hid hg
 have HF := Lib.hid hf
 have HBD := Lib.hid hbd
 clear hb hN hbd hg hf hb2 h0 h1 cb hBN hlo
 go_enter Tryz.func57, Tryz.ntmps57
 go_wp2_with (fail)
 refine HLO.out.mono ?_
 rintro e w' ⟨ho, hb'⟩
 have H1' := (hb'.block (w.heap.size + 1) (by simp)).trans H1.out
 have hsw := hb'.size
 simp only [World.size_alloc] at hsw
 have HB' := Lib.hid (HB2.out.trans (hb'.mono (by simp; omega)))
 clear hb' HLO c3
 rcases ho with ⟨rfl, hn⟩ | ⟨j, hj, hc, hl, rfl⟩
 · have HN : Hid (lastN called names = none) := lastN_none fun i y hy => by
     have := hn i (List.getElem?_eq_some_iff.1 hy).1
     rwa [HF.out i y hy] at this
   clear hn
   have H2 := (Below.heap_alloc w' (.cells #[.string ⟨#[]⟩, .int .i64 0, .slice none 0 0] 160) (w.heap.size + 1) (by omega)).trans H1'
   have x0 := zD (i := 0) H2 rfl
   have x1 := zD (i := 1) H2 rfl
   have xf0 := zI (i := 0) H2
   have xf1 := zI (i := 1) H2
   go_wp2_with (fail)
   have hB := ((HB'.out.alloc (by omega) (.cells #[.string ⟨#[]⟩, .int .i64 0, .slice none 0 0] 160)).setCell (p := ⟨w.heap.size + 1, 0, none⟩) (Nat.le_succ _) (.int .i64 0)).setCell (p := ⟨w.heap.size + 1, 1, none⟩) (Nat.le_succ _) (.slice none 0 0)
   refine bodyPost_ret (v := .tuple #[.agg #[.int .i64 0, .slice none 0 0], .int .i64 51]) (by simp [results, Tryz.results57, go_sem, x0, x1]) rfl ?_
   rw [HN.out]
   exact ⟨rfl, hB⟩
 · obtain ⟨x, hx⟩ : ∃ x, names[j]? = some x := ⟨_, List.getElem?_eq_getElem hj⟩
   have hfx := HF.out j x hx
   rw [hfx] at hc ⊢
   have HN : Hid (lastN called names = some x.2) := lastN_some hx hc fun i y hi hy => by
    have := hl i hi (List.getElem?_eq_some_iff.1 hy).1
    rwa [HF.out i y hy] at this
   obtain ⟨b, o, e, hPb, _, _, _, hT⟩ := HG.out j x hx
   have HT := Lib.hid hT
   clear hT hx hc hl e
   dsimp only
   have H2 := (Below.heap_alloc w' (.cells #[.string ⟨x.1.toArray⟩, .int .i64 x.2.kind, .slice (g j).1 x.2.args.length (g j).2] 160) (w.heap.size + 1) (by omega)).trans H1'
   have x0 := zD (i := 0) H2 rfl
   have x1 := zD (i := 1) H2 rfl
   have xf0 := zI (i := 0) H2
   have xf1 := zI (i := 1) H2
   go_wp2_with (fail)
   have hB := ((HB'.out.alloc (by omega) (.cells #[.string ⟨x.1.toArray⟩, .int .i64 x.2.kind, .slice (g j).1 x.2.args.length (g j).2] 160)).setCell (p := ⟨w.heap.size + 1, 0, none⟩) (Nat.le_succ _) (.int .i64 x.2.kind)).setCell (p := ⟨w.heap.size + 1, 1, none⟩) (Nat.le_succ _) (.slice (g j).1 x.2.args.length (g j).2)
   refine bodyPost_ret (v := .tuple #[.agg #[.int .i64 x.2.kind, .slice (g j).1 x.2.args.length (g j).2], .int .i64 0]) (by simp [results, Tryz.results57, go_sem, x0, x1]) rfl ?_
   rw [HN.out]
   exact ⟨⟨_, rfl, HT.out.set fun k hk => hB.block k (HBD.out k hk).1⟩, hB⟩
end Go.Proofs.YtaecndmncpfpfaaGreatDoor
namespace Go.Proofs.YtaecndmncpfpfaaGreatDoor
open Go.RowKit
set_option maxRecDepth 100000 in
set_option maxHeartbeats 1000000 in
theorem wrong_any (d : Nat) (S : Nat → Prop) (v : Value) (t : Ty) (w : World) (hT : TyAt w S d v t) (hG : Knd.Glob w) :
    Calls Tryz.prog 54 #[v] w fun e w' => e = .returned (.bool (!(Knd.zH 6 t).isSome)) ∧ Below w.heap.size w w' := by
 obtain ⟨A, c, rfl⟩ := hT.form
 go_enter Tryz.func54, Tryz.ntmps54
 go_wp2_with (fail)
 have hb1 := (Below.refl w.heap.size w).alloc (Nat.le_refl _) (.cells #[.int .i64 t.kind, .slice A t.args.length c] 34)
 refine (Knd.check_any d S _ t _ (hT.below hb1) (hG.kept (hb1.block _ hG.lt))).mono ?_
 rintro e w1 ⟨he, hb2⟩
 have HB := Lib.hid (hb1.trans (hb2.mono (by simp)))
 clear hb1 hb2 hT hG
 cases hm : Knd.zH 6 t with
 | none =>
   rw [hm] at he
   obtain rfl : e = .returned (.int .i64 20) := he
   go_wp2_with (fail)
   go_ret
   rw [hm]
   exact ⟨rfl, HB.out⟩
 | some q =>
   rw [hm] at he
   obtain rfl : e = .returned (.int .i64 0) := he
   go_wp2_with (fail)
   go_ret
   rw [hm]
   exact ⟨rfl, HB.out⟩
def ixW : Nat → List Ty → Int
 | _, [] => -1
 | j, t :: ts => if (Knd.zH 6 t).isSome then ixW (j + 1) ts else j
set_option maxRecDepth 100000 in
set_option maxHeartbeats 1000000 in
theorem ixWrong_any (d : Nat) (P : Nat → Prop) (A : Option Addr) (c : Nat) (l : List Ty) (w : World) (hA : Knd.yE w P d A l) (hl : l.length ≤ 100) (hP : ∀ k, P k → k < w.heap.size) (hG : Knd.Glob w) :
    Calls Tryz.prog 90 #[.slice A l.length c, .func (.func 54) #[] #[]] w fun e w' => e = .returned (.int .i64 (ixW 0 l)) ∧ Below w.heap.size w w' := by
 have HA := Lib.hid hA
 have HP := Lib.hid hP
 have HG := Lib.hid hG
 have hGl := hG.lt
 clear hA hP hG
 go_enter Tryz.func90, Tryz.ntmps90
 go_wp2_with (fail)
 go_loopw [8] (fun iv wr => ∃ j : Nat, iv = .int .i64 (j : Int) ∧ j ≤ l.length ∧ Hid (ixW 0 l = ixW j (l.drop j)) ∧ Hid (Below w.heap.size w wr)) (fun iv _ => 1000 - (intOf iv).toNat)
 case atStart => exact ⟨0, rfl, Nat.zero_le _, Lib.hid rfl, Lib.hid (Below.refl _ _)⟩
 case round =>
  obtain ⟨j, rfl, hj, HE, HBR⟩ := hrel
  have hsr := HBR.out.size
  by_cases hlt : j < l.length
  · have hjl : ((j : Int) < (l.length : Int)) := by omega
    obtain ⟨b, o, rfl, hSb, hcells⟩ := HA.out (by omega)
    obtain ⟨t, ht⟩ : ∃ t, l[j]? = some t := ⟨_, List.getElem?_eq_getElem hlt⟩
    obtain ⟨u0, u1, h0, h1, h2⟩ := hcells j t ht
    have hbl := HP.out b hSb
    have g0 := (HBR.out.cell (p := ⟨b, o + j * 2, none⟩) hbl).trans h0
    have g1 := (HBR.out.cell (p := ⟨b, o + j * 2 + 1, none⟩) hbl).trans h1
    have HD : Hid (l.drop j = t :: l.drop (j + 1)) := by
     show _ = _
     rw [List.drop_eq_getElem_cons hlt]
     rw [List.getElem?_eq_getElem hlt] at ht
     injection ht with ht
     rw [ht]
    have HW := Lib.hid (wrong_any d P _ t wr (h2.set fun k hk => HBR.out.block k (HP.out k hk)) (HG.out.kept (HBR.out.block _ hGl)))
    clear ht h0 h1 h2 hcells
    go_wp2_with (fail)
    refine HW.out.mono ?_
    rintro e w2 ⟨rfl, hb2⟩
    have HB2 := Lib.hid (HBR.out.trans (hb2.mono hsr))
    clear hb2
    cases hm : (Knd.zH 6 t).isSome with
    | true =>
      have HE2 : Hid (ixW 0 l = ixW (j + 1) (l.drop (j + 1))) := by
       show _ = _
       rw [HE.out, HD.out, ixW, if_pos hm]
      go_wp2_with (fail)
      go_roundw
      case rel => exact ⟨j + 1, by go_num, by omega, HE2, HB2⟩
      case measure => simp [intOf]; omega
    | false =>
      have HE2 : Hid (ixW 0 l = j) := by
       show _ = _
       rw [HE.out, HD.out, ixW, if_neg (by rw [hm]; simp)]
      go_wp2_with (fail)
      go_ret
      rw [HE2.out]
      exact ⟨rfl, HB2.out⟩
  · have hjl : ¬ ((j : Int) < (l.length : Int)) := by omega
    have HE2 : Hid (ixW 0 l = -1) := by
     show _ = _
     rw [HE.out, List.drop_of_length_le (by omega)]
     rfl
    go_wp2_with (fail)
    go_ret
    rw [HE2.out]
    exact ⟨rfl, HBR.out⟩
set_option maxRecDepth 100000 in
set_option maxHeartbeats 1000000 in
theorem hasWrong_any (d : Nat) (P : Nat → Prop) (A : Option Addr) (c : Nat) (l : List Ty) (w : World) (hA : Knd.yE w P d A l) (hl : l.length ≤ 100) (hP : ∀ k, P k → k < w.heap.size) (hG : Knd.Glob w) :
    Calls Tryz.prog 55 #[.slice A l.length c, .func (.func 54) #[] #[]] w fun e w' => e = .returned (.bool (decide (0 ≤ ixW 0 l))) ∧ Below w.heap.size w w' := by
 have HX := Lib.hid (ixWrong_any d P A c l w hA hl hP hG)
 clear hA hP hG
 go_enter Tryz.func55, Tryz.ntmps55
 go_wp2_with (fail)
 refine HX.out.mono ?_
 rintro e w1 ⟨rfl, hb1⟩
 go_wp2_with (fail)
 go_ret
 exact ⟨rfl, hb1⟩
def rightE (it : Ty) (sides : List Ty) : Bool := (Knd.zH 6 it).isSome && (decide (sides.length ≤ 10) && !decide (0 ≤ ixW 0 sides))
set_option maxRecDepth 100000 in
set_option maxHeartbeats 1000000 in
theorem isRight_any (d : Nat) (P : Nat → Prop) (A SA : Option Addr) (k sk : Nat) (it : Ty) (sides : List Ty) (w : World) (hT : TyAt w P d (.agg #[.int .i64 it.kind, .slice A it.args.length k]) it) (hA : Knd.yE w P d SA sides) (hP : ∀ k, P k → k < w.heap.size) (hG : Knd.Glob w) :
    Calls Tryz.prog 32 #[.agg #[.int .i64 it.kind, .slice A it.args.length k, .slice SA sides.length sk]] w fun e w' => e = .returned (.bool (rightE it sides)) ∧ Below w.heap.size w w' := by
 have HT := Lib.hid hT
 have HA := Lib.hid hA
 have HP := Lib.hid hP
 have HG := Lib.hid hG
 have hGl := hG.lt
 clear hT hA hP hG
 go_enter Tryz.func32, Tryz.ntmps32
 go_wp2_with (fail)
 have hb1 := (Below.refl w.heap.size w).alloc (Nat.le_refl _) (.cells #[.int .i64 it.kind, .slice A it.args.length k, .slice SA sides.length sk] 44)
 have hx := heap_alloc_new w (.cells #[.int .i64 it.kind, .slice A it.args.length k, .slice SA sides.length sk] 44)
 refine (wrong_any d P _ it _ (HT.out.set fun k hk => hb1.block k (HP.out k hk)) (HG.out.kept (hb1.block _ hGl))).mono ?_
 rintro e w1 ⟨rfl, hb2⟩
 have e2 := zD (i := 2) ((hb2.block w.heap.size (by simp)).trans hx) rfl
 have HB2 := Lib.hid (hb1.trans (hb2.mono (by simp)))
 have hs2 := HB2.out.size
 clear hb1 hb2 hx
 cases hm : (Knd.zH 6 it).isSome with
 | false =>
   have HR : Hid (rightE it sides = false) := by show _ = _; unfold rightE; rw [hm]; rfl
   go_wp2_with (fail)
   go_ret
   rw [HR.out]
   exact ⟨rfl, HB2.out⟩
 | true =>
   by_cases hl : sides.length ≤ 10
   · have hl' : ((sides.length : Int) ≤ 10) := by omega
     have HR : Hid (rightE it sides = !decide (0 ≤ ixW 0 sides)) := by show _ = _; unfold rightE; rw [hm]; simp [hl]
     have HH := Lib.hid (hasWrong_any d P SA sk sides w1 (args_set HA.out fun k hk => HB2.out.block k (HP.out k hk)) (by omega) (fun k hk => by have := HP.out k hk; omega) (HG.out.kept (HB2.out.block _ hGl)))
     go_wp2_with (fail)
     refine HH.out.mono ?_
     rintro e w3 ⟨rfl, hb3⟩
     have HB3 := Lib.hid (HB2.out.trans (hb3.mono hs2))
     clear hb3
     go_wp2_with (fail)
     go_ret
     rw [HR.out]
     exact ⟨rfl, HB3.out⟩
   · have hl' : ¬ ((sides.length : Int) ≤ 10) := by omega
     have HR : Hid (rightE it sides = false) := by show _ = _; unfold rightE; rw [hm]; simp [hl]
     go_wp2_with (fail)
     go_ret
     rw [HR.out]
     exact ⟨rfl, HB2.out⟩
