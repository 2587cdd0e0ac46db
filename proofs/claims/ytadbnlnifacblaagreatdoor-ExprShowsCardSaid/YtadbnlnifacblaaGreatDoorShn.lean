/-
The document's answer for package expr: names and Free.
-/
import Derived.Test.YtadbnlnifacblaaGreatDoorShh
import Derived.Deep.QuietTactic
import Derived.BigQuiet
import Derived.StillTailTactics
namespace Go.Proofs.YtadbnlnifacblaaGreatDoor
open Go.RowKit
theorem insD_len (t : List UInt8) : ∀ l : List (List UInt8), (insD t l false).length ≤ l.length + 1
  | [] => by simp [insD]
  | x :: l => by
    rw [insD]
    split
    · rw [insD_put]
      simp
    · cases h : decide (x = t) with
      | true => rw [Bool.false_or, insD_put]; simp
      | false =>
        rw [Bool.false_or, List.length_cons, List.length_cons]
        have := insD_len t l
        omega
theorem names_len : ∀ (r : Nat) (n : Nd) (l : List (List UInt8)), (showW n).isSome = true → (namesD r n l).length ≤ l.length + cntW n
  | 0, n, l, _ => by rw [namesD]; omega
  | r + 1, n, l, h => by
    obtain ⟨h1, h2⟩ := cnt_le h
    rw [namesD]
    split
    · have := insD_len n.text l
      omega
    · obtain ⟨x, hx⟩ := Option.isSome_iff_exists.1 h
      have hk := (sizes_pure hx).1
      have : ∀ (ks : List Nd) (l : List (List UInt8)), (∀ k ∈ ks, (showW k).isSome = true) → (ks.foldl (fun l k => namesD r k l) l).length ≤ l.length + (ks.map cntW).sum := by
        intro ks
        induction ks with
        | nil => intro l _; simp
        | cons k ks ih =>
          intro l hk
          have h3 := names_len r k l (hk k (List.mem_cons_self ..))
          have h4 := ih (namesD r k l) (fun k' hk' => hk k' (List.mem_cons_of_mem _ hk'))
          rw [List.foldl_cons, List.map_cons, List.sum_cons]
          omega
      have := this n.kids l hk
      omega
structure NsI (w : World) (v : Value) (l : List (List UInt8)) (wr : World) : Prop where
  below : Below w.heap.size w wr
  own : wr.ownsRow w.heap.size 9 1 v l.length (l.map encStr)
theorem NsI.put {w wr w' : World} {v v' : Value} {l : List (List UInt8)} {x : List UInt8} {o : Obj} (h : NsI w v l wr) (ho : w'.ownsRow w.heap.size 9 1 v' (l ++ [x]).length ((l ++ [x]).map encStr)) (hg : (wr.alloc o).grownBy w' v.ownBlock) : NsI w v' (l ++ [x]) w' :=
  ⟨(h.below.alloc h.below.size o).grown hg (Nat.le_trans h.below.size (by simp)) (fun k hk => (h.own.lt k hk).1), ho⟩
theorem NsI.drewN {w wr : World} {v : Value} {l : List (List UInt8)} (h : NsI w v l wr) (k : Nat) : NsI w v l (wr.drewN k) :=
  ⟨below_drewN h.below k, h.own⟩
theorem str_one (w : World) (t : List UInt8) : StrAt (w.alloc (.cells #[.string ⟨t.toArray⟩] 9)) (fun _ => True) (.slice (some ⟨w.heap.size, 0, none⟩) 1 1) [t] := by
  refine .inr ⟨w.heap.size, 0, 1, rfl, Nat.le_refl _, trivial, fun j y hy => ?_⟩
  match j, hy with
  | 0, hy => simp at hy; subst hy; simp
  | j + 1, hy => simp at hy
theorem strs_at {w : World} {S : Nat → Prop} {A : Option Addr} {k c : Nat} {l : List (List UInt8)} {j : Nat} {y : List UInt8} (h : StrAt w S (.slice A k c) l) (hy : l[j]? = some y) : ∃ b o, A = some ⟨b, o, none⟩ ∧ w.cell? ⟨b, o + j, none⟩ = some (.string ⟨y.toArray⟩) := by
  rcases h with ⟨_, h0⟩ | ⟨b, o, c', he, hc, hS, hj⟩
  · rw [h0] at hy; simp at hy
  · injection he with e1 e2 e3
    exact ⟨b, o, e1, hj j y hy⟩
set_option maxRecDepth 100000 in
set_option maxHeartbeats 4000000 in
theorem names_d : ∀ (r d : Nat) (S SL : Nat → Prop) (v lv : Value) (n : Nd) (l : List (List UInt8)) (w : World), (∃ s s', termW r n s = some s') → (showW n).isSome = true → NdAt w S d v n → StrAt w SL lv l → l.length + cntW n ≤ 100000 →
    Calls Tryz.prog 55 #[v, lv] w fun e w' => (∃ v', e = .returned v' ∧ StrAt w' (fun _ => True) v' (namesD r n l)) ∧ Below w.heap.size w w'
  | 0, _, _, _, _, _, _, _, _, h, _, _, _, _ => by
    obtain ⟨s, s', h⟩ := h
    simp [termW] at h
  | _ + 1, 0, _, _, _, _, _, _, _, _, _, h, _, _ => h.elim
  | r + 1, d + 1, S, SL, v, lv, n, l, w, hq, hqs, hT, hL, hlen => by
    obtain ⟨hc1, hc2⟩ := cnt_le hqs
    have hk64 := kids_le hqs
    have IH := names_d r d S (fun _ => True)
    have HIH := Lib.hid IH
    obtain ⟨LA, LC, rfl⟩ := hL.form
    have HL := Lib.hid hL
    obtain ⟨A, c, K, k, rfl, ⟨dt, hty⟩, hlk, hA⟩ := hT
    have HA := Lib.hid hA
    have hb1 := (Below.refl w.heap.size w).alloc (Nat.le_refl _) (.cells #[.string ⟨n.op.toArray⟩, .int .i64 n.int, .string ⟨n.text.toArray⟩, .int .i64 n.ty.kind, .slice A n.ty.args.length c, .slice K n.kids.length k] 37)
    have hs1 : (w.alloc (.cells #[.string ⟨n.op.toArray⟩, .int .i64 n.int, .string ⟨n.text.toArray⟩, .int .i64 n.ty.kind, .slice A n.ty.args.length c, .slice K n.kids.length k] 37)).heap.size = w.heap.size + 1 := by simp
    have HC1 := Lib.hid (heap_alloc_new w (.cells #[.string ⟨n.op.toArray⟩, .int .i64 n.int, .string ⟨n.text.toArray⟩, .int .i64 n.ty.kind, .slice A n.ty.args.length c, .slice K n.kids.length k] 37))
    have HB1 := Lib.hid hb1
    have HCC := Lib.hid hc2
    have HQS := Lib.hid hqs
    obtain ⟨w1, hw1⟩ : ∃ w1, w1 = w.alloc (.cells #[.string ⟨n.op.toArray⟩, .int .i64 n.int, .string ⟨n.text.toArray⟩, .int .i64 n.ty.kind, .slice A n.ty.args.length c, .slice K n.kids.length k] 37) := ⟨_, rfl⟩
    rw [← hw1] at HC1 HB1 hs1
    have HW1 := Lib.hid hw1
    have HL1 : Hid (StrAt w1 (fun _ => True) (.slice LA l.length LC) l) := (HL.out.below HB1.out).wider fun _ _ => trivial
    clear hA IH hty hb1 hw1 hL hqs hc2 HL
    by_cases hn : n.op = nameW
    · have g1 : (n.op == [110, 97, 109, 101]) = true := by rw [hn]; rfl
      have HSD : Hid (namesD (r + 1) n l = insD n.text l false) := by show _ = _; rw [namesD, if_pos hn]
      clear hn hq
      go_enter Tryz.func55, Tryz.ntmps55
      go_wp2_with (fail)
      rw [← HW1.out]
      go_loopw [5, 6, 7] (fun ov pv iv wr => ∃ (j : Nat) (p : Bool) (ol : List (List UInt8)), iv = .int .i64 (j : Int) ∧ pv = .bool p ∧ j ≤ l.length ∧ ol.length ≤ j + 1 ∧ (p = false → ol.length ≤ j) ∧ Hid (insD n.text l false = ol ++ insD n.text (l.drop j) p) ∧ Hid (NsI w1 ov ol wr)) (fun _ _ iv _ => 200000 - (intOf iv).toNat)
      case atStart => exact ⟨0, false, [], rfl, rfl, Nat.zero_le _, Nat.zero_le _, fun _ => Nat.zero_le _, Lib.hid rfl, ⟨Below.refl _ _, World.ownsRow_nil _ _ _ _⟩⟩
      case round =>
        obtain ⟨j, p, ol, rfl, rfl, hj, hol, hol2, HE, HI⟩ := hrel
        obtain ⟨AV, CV, rfl⟩ := own_slice HI.out.own
        have hsr := HI.out.below.size
        have HCR := Lib.hid (below_at HI.out.below HC1.out)
        have HLR := Lib.hid (HL1.out.below HI.out.below)
        have x2 := cell6_2 HCR.out
        have xl := cell_lt HCR.out
        by_cases hlt : j < l.length
        · have hjl : ((j : Int) < (l.length : Int)) := by omega
          obtain ⟨y, hy⟩ : ∃ y, l[j]? = some y := ⟨_, List.getElem?_eq_getElem hlt⟩
          obtain ⟨lb, lo, rfl, g0⟩ := strs_at HLR.out hy
          have HD : Hid (l.drop j = y :: l.drop (j + 1)) := by
            show _ = _
            rw [List.drop_eq_getElem_cons hlt]
            rw [List.getElem?_eq_getElem hlt] at hy
            injection hy with hy
            rw [hy]
          have HY := Lib.hid hy
          clear hy
          rcases (Decidable.em (y = n.text)).symm with hyt | hyt
          · have g2 : (y == n.text) = false := by simp [hyt]
            cases p with
            | true =>
              have HE2 : Hid (insD n.text l false = (ol ++ [y]) ++ insD n.text (l.drop (j + 1)) true) := by
                show _ = _
                rw [HE.out, HD.out, insD, if_neg (by simp), Bool.true_or]
                simp
              clear hyt
              go_wp2_with (fail)
              go_quiet (fail)
              go_wp2_with (fail)
              go_quiet (fail)
              go_upto_region 12 with (fail)
              generalize hw0 : wr.drewN _ = w0
              generalize hw2 : w0.drewN _ = w2
              have HI2 : Hid (NsI w1 (.slice AV ol.length CV) ol w2) := by rw [← hw2, ← hw0]; exact (HI.out.drewN _).drewN _
              have hs2 := HI2.out.below.size
              have gg0 : w2.cell? ⟨lb, lo + j, none⟩ = some (.string ⟨y.toArray⟩) := by rw [← hw2, ← hw0]; simpa using g0
              clear hw2 hw0 g0 x2
              go_wp2_with (at_builtin; refine wpList_append_strs rfl _ _ rfl w1.heap.size _ ol [y] rfl (HI2.out.own.alloc _) (fun _ => True) _ rfl (str_one w2 y) (by simp; omega) (by simp; omega) ?_; intro v7 w7 hown7 hg7 hat7)
              go_roundw
              case rel => exact ⟨j + 1, true, ol ++ [y], by go_num, rfl, by omega, by simp; omega, fun h => by simp; first | (cases h; done) | (have := hol2 (by trivial); omega), HE2, HI2.out.put hown7 hg7⟩
              case measure => simp [intOf]; omega
            | false =>
              by_cases hlt2 : n.text < y
              · have g3 : Op.bytesLess n.text y = true := by rw [bytesLess_eq]; exact decide_eq_true hlt2
                have HE2 : Hid (insD n.text l false = ((ol ++ [n.text]) ++ [y]) ++ insD n.text (l.drop (j + 1)) true) := by
                  show _ = _
                  rw [HE.out, HD.out, insD, if_pos ⟨by simp [hyt], hlt2⟩]
                  simp
                clear hyt hlt2
                go_wp2_with (fail)
                go_quiet (fail)
                go_wp2_with (fail)
                go_quiet (fail)
                go_upto_region 10 with (fail)
                generalize hw0 : wr.drewN _ = w0
                generalize hw2 : w0.drewN _ = w2
                have HI2 : Hid (NsI w1 (.slice AV ol.length CV) ol w2) := by rw [← hw2, ← hw0]; exact (HI.out.drewN _).drewN _
                have hs2 := HI2.out.below.size
                have gx2 : w2.cell? ⟨w.heap.size, 2, none⟩ = some (.string ⟨n.text.toArray⟩) := by rw [← hw2, ← hw0]; simpa using x2
                clear hw2 hw0 g0 x2
                go_upto_region 12 with (at_builtin; refine wpList_append_strs rfl _ _ rfl w1.heap.size _ ol [n.text] rfl (HI2.out.own.alloc _) (fun _ => True) _ rfl (str_one w2 n.text) (by simp; omega) (by simp; omega) ?_; intro v7 w7 hown7 hg7 hat7)
                obtain ⟨A7, C7, hv7⟩ := own_slice hown7
                subst hv7
                have HI7 := Lib.hid (HI2.out.put hown7 hg7)
                have HL7 := Lib.hid (HL1.out.below HI7.out.below)
                have hs7 := HI7.out.below.size
                obtain ⟨lb7, lo7, hlb7, g7⟩ := strs_at HL7.out HY.out
                simp only [Option.some.injEq, Addr.mk.injEq, and_true] at hlb7
                obtain ⟨e1, e2⟩ := hlb7
                subst e1 e2
                clear hown7 hg7 hat7 HL7
                go_wp2_with (at_builtin; refine wpList_append_strs rfl _ _ rfl w1.heap.size _ (ol ++ [n.text]) [y] rfl (HI7.out.own.alloc _) (fun _ => True) _ rfl (str_one w7 y) (by simp; omega) (by simp; omega) ?_; intro v8 w8 hown8 hg8 hat8)
                go_roundw
                case rel => exact ⟨j + 1, true, (ol ++ [n.text]) ++ [y], by go_num, rfl, by omega, by have := hol2 (by trivial); simp; omega, fun h => (by cases h), HE2, HI7.out.put hown8 hg8⟩
                case measure => simp [intOf]; omega
              · have g3 : Op.bytesLess n.text y = false := by rw [bytesLess_eq]; exact decide_eq_false hlt2
                have HE2 : Hid (insD n.text l false = (ol ++ [y]) ++ insD n.text (l.drop (j + 1)) false) := by
                  show _ = _
                  rw [HE.out, HD.out, insD, if_neg (fun h => hlt2 h.2), Bool.false_or, decide_eq_false hyt]
                  simp
                clear hyt hlt2
                go_wp2_with (fail)
                go_quiet (fail)
                go_wp2_with (fail)
                go_quiet (fail)
                go_upto_region 12 with (fail)
                generalize hw0 : wr.drewN _ = w0
                generalize hw2 : w0.drewN _ = w2
                have HI2 : Hid (NsI w1 (.slice AV ol.length CV) ol w2) := by rw [← hw2, ← hw0]; exact (HI.out.drewN _).drewN _
                have hs2 := HI2.out.below.size
                have gg0 : w2.cell? ⟨lb, lo + j, none⟩ = some (.string ⟨y.toArray⟩) := by rw [← hw2, ← hw0]; simpa using g0
                clear hw2 hw0 g0 x2
                go_wp2_with (at_builtin; refine wpList_append_strs rfl _ _ rfl w1.heap.size _ ol [y] rfl (HI2.out.own.alloc _) (fun _ => True) _ rfl (str_one w2 y) (by simp; omega) (by simp; omega) ?_; intro v7 w7 hown7 hg7 hat7)
                go_roundw
                case rel => exact ⟨j + 1, false, ol ++ [y], by go_num, rfl, by omega, by simp; omega, fun h => by simp; first | (cases h; done) | (have := hol2 (by trivial); omega), HE2, HI2.out.put hown7 hg7⟩
                case measure => simp [intOf]; omega
          · have g2 : (y == n.text) = true := by simp [hyt]
            have HE2 : Hid (insD n.text l false = (ol ++ [y]) ++ insD n.text (l.drop (j + 1)) true) := by
              show _ = _
              rw [HE.out, HD.out, insD, if_neg (fun h => by have := h.1; simp [hyt] at this), decide_eq_true hyt, Bool.or_true]
              simp
            clear hyt
            go_wp2_with (fail)
            go_quiet (fail)
            go_wp2_with (fail)
            go_quiet (fail)
            go_upto_region 12 with (fail)
            generalize hw0 : wr.drewN _ = w0
            generalize hw2 : w0.drewN _ = w2
            have HI2 : Hid (NsI w1 (.slice AV ol.length CV) ol w2) := by rw [← hw2, ← hw0]; exact (HI.out.drewN _).drewN _
            have hs2 := HI2.out.below.size
            have gg0 : w2.cell? ⟨lb, lo + j, none⟩ = some (.string ⟨y.toArray⟩) := by rw [← hw2, ← hw0]; simpa using g0
            clear hw2 hw0 g0 x2
            go_wp2_with (at_builtin; refine wpList_append_strs rfl _ _ rfl w1.heap.size _ ol [y] rfl (HI2.out.own.alloc _) (fun _ => True) _ rfl (str_one w2 y) (by simp; omega) (by simp; omega) ?_; intro v7 w7 hown7 hg7 hat7)
            go_roundw
            case rel => exact ⟨j + 1, true, ol ++ [y], by go_num, rfl, by omega, by simp; omega, fun h => by simp; first | (cases h; done) | (have := hol2 (by trivial); omega), HE2, HI2.out.put hown7 hg7⟩
            case measure => simp [intOf]; omega
        · have hjl : ¬ ((j : Int) < (l.length : Int)) := by omega
          have HE2 : Hid (namesD (r + 1) n l = if p then ol else ol ++ [n.text]) := by
            show _ = _
            rw [HSD.out, HE.out, List.drop_of_length_le (by omega)]
            cases p <;> simp [insD]
          cases p with
          | true =>
            go_wp2_with (fail)
            refine bodyPost_ret (v := .slice AV ol.length CV) (by simp [results, Tryz.results55, go_sem]) rfl ?_
            exact ⟨⟨_, rfl, by rw [HE2.out]; exact (StrAt.of_own HI.out.own).wider fun _ _ => trivial⟩, HB1.out.trans (HI.out.below.mono (by omega))⟩
          | false =>
            go_wp2_with (at_builtin; refine wpList_append_strs rfl _ _ rfl w1.heap.size _ ol [n.text] rfl (HI.out.own.alloc _) (fun _ => True) _ rfl (str_one wr n.text) (by simp; omega) (by simp; omega) ?_; intro v7 w7 hown7 hg7 hat7)
            refine bodyPost_ret (v := v7) (by simp [results, Tryz.results55, go_sem]) rfl ?_
            have HI7 := HI.out.put hown7 hg7
            exact ⟨⟨_, rfl, by rw [HE2.out]; exact (StrAt.of_own HI7.own).wider fun _ _ => trivial⟩, HB1.out.trans (HI7.below.mono (by omega))⟩
    · have g1 : (n.op == [110, 97, 109, 101]) = false := beq_eq_false_iff_ne.2 hn
      obtain ⟨s0, s0', hq0⟩ := hq
      have HKK := Lib.hid (termW_kids hq0 hn).2
      obtain ⟨x0, hx0⟩ := Option.isSome_iff_exists.1 HQS.out
      have HKQ := Lib.hid (sizes_pure hx0).1
      have HSD : Hid (namesD (r + 1) n l = n.kids.foldl (fun l k => namesD r k l) l) := by show _ = _; rw [namesD, if_neg hn]
      clear hn hq0 hx0
      go_enter Tryz.func55, Tryz.ntmps55
      go_wp2_with (fail)
      rw [← HW1.out]
      go_loopw [1, 8] (fun lv iv wr => ∃ (j : Nat) (ls : List (List UInt8)), iv = .int .i64 (j : Int) ∧ j ≤ n.kids.length ∧ ls.length + ((n.kids.drop j).map cntW).sum ≤ 100000 ∧ Hid (namesD (r + 1) n l = (n.kids.drop j).foldl (fun l k => namesD r k l) ls) ∧ Hid (StrAt wr (fun _ => True) lv ls) ∧ Hid (Below w1.heap.size w1 wr)) (fun _ iv _ => 100 - (intOf iv).toNat)
      case atStart => exact ⟨0, l, rfl, Nat.zero_le _, by rw [List.drop_zero]; have := HCC.out; omega, HSD, HL1, Below.refl _ _⟩
      case round =>
        obtain ⟨j, ls, rfl, hj, hsum, HE, HLS, HBR⟩ := hrel
        obtain ⟨LA2, LC2, hlv⟩ := HLS.out.form
        subst hlv
        have hsr := HBR.out.size
        have HCR := Lib.hid (below_at HBR.out HC1.out)
        have x5 := cell6_5 HCR.out
        have xl := cell_lt HCR.out
        by_cases hlt : j < n.kids.length
        · have hjl : ((j : Int) < (n.kids.length : Int)) := by omega
          have HBW := Lib.hid (HB1.out.trans (HBR.out.mono (by omega)))
          obtain ⟨b1, o, rfl, hSb, hcells⟩ := HA.out (by omega)
          obtain ⟨x, hx⟩ : ∃ x, n.kids[j]? = some x := ⟨_, List.getElem?_eq_getElem hlt⟩
          have hmem := List.mem_of_getElem? hx
          have HXK := Lib.hid (HKK.out x hmem)
          have HXQ := Lib.hid (HKQ.out x hmem)
          obtain ⟨A1, c1, K1, k1, h0, h1, h2, h3, h4, h5, h6, hbl⟩ := kid_cells hcells hx
          have g0 := (HBW.out.cell (p := ⟨b1, o + j * 6, none⟩) hbl).trans h0
          have gg1 := (HBW.out.cell (p := ⟨b1, o + j * 6 + 1, none⟩) hbl).trans h1
          have g2 := (HBW.out.cell (p := ⟨b1, o + j * 6 + 2, none⟩) hbl).trans h2
          have g3 := (HBW.out.cell (p := ⟨b1, o + j * 6 + 3, none⟩) hbl).trans h3
          have g4 := (HBW.out.cell (p := ⟨b1, o + j * 6 + 4, none⟩) hbl).trans h4
          have g5 := (HBW.out.cell (p := ⟨b1, o + j * 6 + 5, none⟩) hbl).trans h5
          have H2 := Lib.hid (h6.below HBW.out)
          have hd : n.kids.drop j = x :: n.kids.drop (j + 1) := by
            rw [List.drop_eq_getElem_cons hlt]
            rw [List.getElem?_eq_getElem hlt] at hx
            injection hx with hx
            rw [hx]
          rw [hd, List.map_cons, List.sum_cons] at hsum
          have hnl := names_len r x ls HXQ.out
          have HE2 : Hid (namesD (r + 1) n l = (n.kids.drop (j + 1)).foldl (fun l k => namesD r k l) (namesD r x ls)) := by
            show _ = _
            rw [HE.out, hd, List.foldl_cons]
          have hsum2 : (namesD r x ls).length + ((n.kids.drop (j + 1)).map cntW).sum ≤ 100000 := by omega
          have HS2 := Lib.hid hsum2
          have HXN := Lib.hid (HIH.out (.agg #[.string ⟨x.op.toArray⟩, .int .i64 x.int, .string ⟨x.text.toArray⟩, .int .i64 x.ty.kind, .slice A1 x.ty.args.length c1, .slice K1 x.kids.length k1]) (.slice LA2 ls.length LC2) x ls wr HXK.out HXQ.out H2.out HLS.out (by omega))
          clear h0 h1 h2 h3 h4 h5 h6 hx hmem hcells hd hsum hsum2 hnl HE
          go_wp2_with (fail)
          refine HXN.out.mono ?_
          rintro e w3 ⟨⟨v3, rfl, hst⟩, hb3⟩
          have HST := Lib.hid hst
          have HB3 := Lib.hid (HBR.out.trans (hb3.mono hsr))
          clear hst hb3 g0 gg1 g2 g3 g4 g5
          go_wp2_with (fail)
          go_roundw
          case rel => exact ⟨j + 1, namesD r x ls, by go_num, by omega, HS2.out, HE2, HST, HB3⟩
          case measure => simp [intOf]; omega
        · have hjl : ¬ ((j : Int) < (n.kids.length : Int)) := by omega
          have HR : Hid (namesD (r + 1) n l = ls) := by
            show _ = _
            rw [HE.out, List.drop_of_length_le (by omega)]
            rfl
          go_wp2_with (fail)
          refine bodyPost_ret (v := .slice LA2 ls.length LC2) (by simp [results, Tryz.results55, go_sem]) rfl ?_
          exact ⟨⟨_, rfl, by rw [HR.out]; exact HLS.out⟩, HB1.out.trans (HBR.out.mono (by omega))⟩
set_option maxRecDepth 100000 in
set_option maxHeartbeats 4000000 in
theorem free_d (d : Nat) (S : Nat → Prop) (v : Value) (n : Nd) (w : World) (hq : (showW n).isSome = true) (hT : NdAt w S d v n) :
    Calls Tryz.prog 22 #[v] w fun e w' => (∃ v', e = .returned v' ∧ StrAt w' (fun _ => True) v' (freeL n)) ∧ Below w.heap.size w w' := by
  obtain ⟨A, c, K, k, rfl⟩ := hT.form
  have hb1 := (Below.refl w.heap.size w).alloc (Nat.le_refl _) (.cells #[.string ⟨n.op.toArray⟩, .int .i64 n.int, .string ⟨n.text.toArray⟩, .int .i64 n.ty.kind, .slice A n.ty.args.length c, .slice K n.kids.length k] 37)
  have hs1 : (w.alloc (.cells #[.string ⟨n.op.toArray⟩, .int .i64 n.int, .string ⟨n.text.toArray⟩, .int .i64 n.ty.kind, .slice A n.ty.args.length c, .slice K n.kids.length k] 37)).heap.size = w.heap.size + 1 := by simp
  have HC1 := Lib.hid (heap_alloc_new w (.cells #[.string ⟨n.op.toArray⟩, .int .i64 n.int, .string ⟨n.text.toArray⟩, .int .i64 n.ty.kind, .slice A n.ty.args.length c, .slice K n.kids.length k] 37))
  have HB1 := Lib.hid hb1
  have HN1 := Lib.hid (hT.below hb1)
  have HTM := Lib.hid (showW_term hq)
  have HFE := Lib.hid (freeD_eq hq)
  have hcl := (cnt_le hq).1
  have hnl := names_len 24 n [] hq
  have HNM := Lib.hid (fun (W : World) (h : NdAt W S d (.agg #[.string ⟨n.op.toArray⟩, .int .i64 n.int, .string ⟨n.text.toArray⟩, .int .i64 n.ty.kind, .slice A n.ty.args.length c, .slice K n.kids.length k]) n) => names_d 24 d S (fun _ => True) _ (.slice none 0 0) n [] W (showW_term hq) hq h (StrAt.nil _ _) (by simp; omega))
  obtain ⟨ls, hls⟩ : ∃ ls, ls = namesD 24 n [] := ⟨_, rfl⟩
  rw [← hls] at hnl HNM
  have hl4 : ls.length ≤ 4096 := by simp at hnl; omega
  have HLS := Lib.hid hls
  clear hq hT hb1 hnl hls
  go_enter Tryz.func22, Tryz.ntmps22
  go_wp2_with (fail)
  refine (HNM.out _ HN1.out).mono ?_
  rintro e w2 ⟨⟨v2, rfl, hst⟩, hb2⟩
  obtain ⟨LA, LC, hv2⟩ := hst.form
  subst hv2
  have HST := Lib.hid hst
  have HC2 := Lib.hid (below_at hb2 HC1.out)
  have HN2 := Lib.hid (HN1.out.below hb2)
  have hs2 := hb2.size
  have HB2 := Lib.hid (HB1.out.trans (hb2.mono (by omega)))
  clear hst hb2 HNM HB1 HC1 HN1
  go_wp2_with (fail)
  go_loopw [3, 5] (fun ov iv wr => ∃ (j : Nat) (ol : List (List UInt8)), iv = .int .i64 (j : Int) ∧ j ≤ ls.length ∧ ol.length ≤ j ∧ Hid (freeL n = ol ++ (ls.drop j).filter fun x => hasD x 24 n) ∧ Hid (NsI w2 ov ol wr)) (fun _ iv _ => 5000 - (intOf iv).toNat)
  case atStart => exact ⟨0, [], rfl, Nat.zero_le _, Nat.zero_le _, by show _ = _; rw [← HFE.out, HLS.out]; rfl, ⟨Below.refl _ _, World.ownsRow_nil _ _ _ _⟩⟩
  case round =>
    obtain ⟨j, ol, rfl, hj, hol, HE, HI⟩ := hrel
    obtain ⟨AV, CV, rfl⟩ := own_slice HI.out.own
    have hsr := HI.out.below.size
    have HCR := Lib.hid (below_at HI.out.below HC2.out)
    have HSR := Lib.hid (HST.out.below HI.out.below)
    have HNR := Lib.hid (HN2.out.below HI.out.below)
    have x0 := cell6_0 HCR.out
    have x1 := cell6_1 HCR.out
    have x2 := cell6_2 HCR.out
    have x3 := cell6_3 HCR.out
    have x4 := cell6_4 HCR.out
    have x5 := cell6_5 HCR.out
    have xl := cell_lt HCR.out
    by_cases hlt : j < ls.length
    · have hjl : ((j : Int) < (ls.length : Int)) := by omega
      obtain ⟨y, hy⟩ : ∃ y, ls[j]? = some y := ⟨_, List.getElem?_eq_getElem hlt⟩
      obtain ⟨lb, lo, rfl, g0⟩ := strs_at HSR.out hy
      have HD : Hid (ls.drop j = y :: ls.drop (j + 1)) := by
        show _ = _
        rw [List.drop_eq_getElem_cons hlt]
        rw [List.getElem?_eq_getElem hlt] at hy
        injection hy with hy
        rw [hy]
      have HY := Lib.hid hy
      have HHD := Lib.hid (has_d 24 d S (.agg #[.string ⟨n.op.toArray⟩, .int .i64 n.int, .string ⟨n.text.toArray⟩, .int .i64 n.ty.kind, .slice A n.ty.args.length c, .slice K n.kids.length k]) n y wr.drew HTM.out (HNR.out.below (Below.refl wr.heap.size wr).drew))
      clear hy
      go_upto_region 6 with (fail)
      refine wp_region_still_tail 5 (by kernel_rfl) (by kernel_rfl) ?_
      simp only [List.take_succ_cons, List.take_zero, List.drop_succ_cons, List.drop_zero]
      change wpStill _ _ (World.drew _) _ _ _
      repeat still_step
      refine wpStill_nil ?_
      change wpList _ _ _ _ _ (World.drew _)
      go_wp2_with (fail)
      refine HHD.out.mono ?_
      rintro e w3 ⟨rfl, hb3⟩
      have hb3' : Below wr.heap.size wr w3 := (Below.refl wr.heap.size wr).drew.trans hb3
      have HI3 : Hid (NsI w2 (.slice AV ol.length CV) ol w3) := ⟨HI.out.below.trans (hb3'.mono hsr), HI.out.own.kept (row := none) ⟨hb3'.os, hb3'.tape, hb3'.output, hb3'.size, fun k hk _ => hb3'.block k hk⟩ (by cases AV <;> simp [Value.ownBlock])⟩
      have hs3 := HI3.out.below.size
      have g3 : w3.cell? ⟨lb, lo + j, none⟩ = some (.string ⟨y.toArray⟩) := by
        obtain ⟨lb', lo', h1, h2⟩ := strs_at (HST.out.below HI3.out.below) HY.out
        simp only [Option.some.injEq, Addr.mk.injEq, and_true] at h1
        rw [h1.1, h1.2]
        exact h2
      clear hb3 hb3' g0 x0 x1 x2 x3 x4 x5
      cases hh : hasD y 24 n with
      | false =>
        have HE2 : Hid (freeL n = ol ++ (ls.drop (j + 1)).filter fun x => hasD x 24 n) := by
          show _ = _
          rw [HE.out, HD.out, List.filter_cons, hh]
          rfl
        clear hh
        go_wp2_with (fail)
        go_roundw
        case rel => exact ⟨j + 1, ol, by go_num, by omega, by omega, HE2, HI3⟩
        case measure => simp [intOf]; omega
      | true =>
        have HE2 : Hid (freeL n = (ol ++ [y]) ++ (ls.drop (j + 1)).filter fun x => hasD x 24 n) := by
          show _ = _
          rw [HE.out, HD.out, List.filter_cons, hh]
          simp
        clear hh
        go_wp2_with (at_builtin; refine wpList_append_strs rfl _ _ rfl w2.heap.size _ ol [y] rfl (HI3.out.own.alloc _) (fun _ => True) _ rfl (str_one w3 y) (by simp; omega) (by simp; omega) ?_; intro v7 w7 hown7 hg7 hat7)
        go_roundw
        case rel => exact ⟨j + 1, ol ++ [y], by go_num, by omega, by simp; omega, HE2, HI3.out.put hown7 hg7⟩
        case measure => simp [intOf]; omega
    · have hjl : ¬ ((j : Int) < (ls.length : Int)) := by omega
      have HR : Hid (freeL n = ol) := by
        show _ = _
        rw [HE.out, List.drop_of_length_le (by omega)]
        simp
      go_wp2_with (fail)
      refine bodyPost_ret (v := .slice AV ol.length CV) (by simp [results, Tryz.results22, go_sem]) rfl ?_
      exact ⟨⟨_, rfl, by rw [HR.out]; exact (StrAt.of_own HI.out.own).wider fun _ _ => trivial⟩, HB2.out.trans (HI.out.below.mono (by omega))⟩
end Go.Proofs.YtadbnlnifacblaaGreatDoor
