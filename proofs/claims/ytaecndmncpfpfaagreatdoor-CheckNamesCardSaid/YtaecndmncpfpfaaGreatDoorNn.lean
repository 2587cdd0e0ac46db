import Derived.Test.YtaecndmncpfpfaaGreatDoorFc
import Derived.Test.YtaecndmncpfpfaaGreatDoorGh
import Derived.WalkSmall
import Derived.Test.YtaecndmncpfpfaaGreatDoorCh
import Derived.Test.YtaecndmncpfpfaaGreatDoorOfn
import Derived.Deep.RegionHeld3
import Derived.Deep.QuietTactic
import Derived.BigQuiet
import Derived.Test.YtaecndmncpfpfaaGreatDoorLh
import Derived.Test.YtaecndmncpfpfaaGreatDoorEv
import Derived.Maps.AppendAt
import Derived.Test.YtaecndmncpfpfaaGreatDoorMf
import Derived.Test.YtaecndmncpfpfaaGreatDoorFrx
set_option linter.unusedVariables false
set_option linter.unusedSimpArgs false
namespace Go.Proofs.YtaecndmncpfpfaaGreatDoor.Knd
open Go.RowKit
def countK (k : Int) : Int := if k = 6 then 2 else if k = 7 then 1 else if k = 9 then 1 else 0
set_option maxRecDepth 100000 in
theorem count_any (k : Int) (w : World) : Calls Tryz.prog 47 #[.int .i64 k] w fun e w' => e = .returned (.int .i64 (countK k)) ∧ w = w' := by
 by_cases h6 : k = 6
 · subst h6
   go_enter Tryz.func47, Tryz.ntmps47; go_wp2_with (fail); go_ret; exact ⟨rfl, rfl⟩
 · by_cases h7 : k = 7
   · subst h7
     go_enter Tryz.func47, Tryz.ntmps47; go_wp2_with (fail); go_ret; exact ⟨rfl, rfl⟩
   · by_cases h9 : k = 9
     · subst h9
       go_enter Tryz.func47, Tryz.ntmps47; go_wp2_with (fail); go_ret; exact ⟨rfl, rfl⟩
     · have HC : Hid (countK k = 0) := by show _ = _; simp only [countK, if_neg h6, if_neg h7, if_neg h9]
       have g6 : (k == 6) = false := by simp [h6]
       have g7 : (k == 7) = false := by simp [h7]
       have g9 : (k == 9) = false := by simp [h9]
       clear h6 h7 h9
       go_enter Tryz.func47, Tryz.ntmps47
       go_wp2_with (fail)
       go_ret
       rw [HC.out]
       exact ⟨rfl, rfl⟩
theorem words_names : ∀ x ∈ words, x.name.toList ≠ [] := by
 intro x hx h
 have h2 := (words_small x hx).1
 have h3 : x.name.toList.length = x.name.size := by rw [Lib.toList_data]; simp
 rw [h] at h3
 simp at h3
 omega
theorem words_count : ∀ x ∈ words, x.args = countK x.kind := by decide
def okT (r : Nat) (t : Ty) : Bool := (zH r t).isSome
theorem measureL_ok (f : Ty → Option Nat) : ∀ (l : List Ty) (m : Nat), (yK f l m).isSome = l.all (fun a => (f a).isSome)
 | [], m => rfl
 | a :: l, m => by
   simp only [yK, List.all_cons]
   cases f a with
   | none => rfl
   | some q => simpa using measureL_ok f l _
theorem okT_zero (t : Ty) : okT 0 t = false := rfl
theorem okT_none {r : Nat} {t : Ty} (h : wordK t.kind = none) : okT (r + 1) t = false := by simp [okT, zH, h]
theorem okT_some {r : Nat} {t : Ty} {x : Wd} (h : wordK t.kind = some x) : okT (r + 1) t = (decide ((t.args.length : Int) = x.args) && t.args.all (okT r)) := by
 simp only [okT, zH, h]
 by_cases hl : (t.args.length : Int) = x.args
 · have := measureL_ok (zH r) t.args 0
   simp [hl, this]
   rfl
 · simp [hl]
theorem word_q {k : Int} {s : ByteArray} (h : wordStr k = s) (w : World) (n : Nat) : Calls Tryz.prog 46 #[.int .i64 k] (w.drewN n) fun e w'' => e = .returned (.string s) ∧ ∃ m, w'' = w.drewN m := by
 subst h
 exact (word_any k _).mono fun _ _ ⟨he, hm⟩ => ⟨he, n, hm.symm⟩
theorem count_q {k : Int} {s : Int} (h : countK k = s) (w : World) (n : Nat) : Calls Tryz.prog 47 #[.int .i64 k] (w.drewN n) fun e w'' => e = .returned (.int .i64 s) ∧ ∃ m, w'' = w.drewN m := by
 subst h
 exact (count_any k _).mono fun _ _ ⟨he, hm⟩ => ⟨he, n, hm.symm⟩
set_option maxRecDepth 100000 in
set_option maxHeartbeats 1000000 in
theorem rright_any : ∀ (r d n : Nat) (S : Nat → Prop) (v : Value) (t : Ty) (w : World), r ≤ 6 → Nar n t → TyAt w S d v t →
    Calls Tryz.prog 23 #[v, .int .i64 r] w fun e w' => e = .returned (.bool (okT r t)) ∧ Below w.heap.size w w'
 | r, 0, n, S, v, t, w, _, _, hT => hT.elim
 | r, d + 1, 0, S, v, t, w, _, hN, _ => hN.elim
 | 0, d + 1, n + 1, S, v, t, w, _, hN, hT => by
   obtain ⟨A, c, rfl⟩ := hT.form
   rw [okT_zero]
   have hb1 := (Below.refl w.heap.size w).alloc (Nat.le_refl _) (.cells #[.int .i64 t.kind, .slice A t.args.length c] 24)
   clear hN hT
   go_enter Tryz.func23, Tryz.ntmps23
   go_wp2_with (fail)
   go_quiet (fail)
   go_wp2_with (fail)
   go_ret
   exact ⟨rfl, below_drewN hb1 _⟩
 | r + 1, d + 1, n + 1, S, v, t, w, hr6, hN, hT => by
   obtain ⟨hlen, hall⟩ := hN
   have IH := rright_any r d n S
   have HIH := Lib.hid IH
   have HALL := Lib.hid hall
   obtain ⟨A, c, rfl, hlc, hA⟩ := hT
   have HA := Lib.hid hA
   have hb1 := (Below.refl w.heap.size w).alloc (Nat.le_refl _) (.cells #[.int .i64 t.kind, .slice A t.args.length c] 24)
   have hn1 := heap_alloc_new w (.cells #[.int .i64 t.kind, .slice A t.args.length c] 24)
   have hb0 : (((r : Int) + 1) == 0) = false := by simp; omega
   clear hA IH hall
   rw [show ((r + 1 : Nat) : Int) = (r : Int) + 1 by omega]
   cases hw : wordK t.kind with
   | none =>
     have HO : Hid (okT (r + 1) t = false) := okT_none hw
     have HWS : Hid (wordStr t.kind = ⟨#[]⟩) := by show _ = _; simp only [wordStr, hw]; rfl
     clear hw
     go_enter Tryz.func23, Tryz.ntmps23
     go_wp2_with (fail)
     go_quiet ((go_at_call 46; exact word_q HWS.out _ _))
     go_wp2_with (fail)
     go_ret
     rw [HO.out]
     exact ⟨rfl, below_drewN hb1 _⟩
   | some x =>
     have hxw := wordK_mem hw
     have HO : Hid (okT (r + 1) t = (decide ((t.args.length : Int) = x.args) && t.args.all (okT r))) := okT_some hw
     have HWS : Hid (wordStr t.kind = x.name) := by show _ = _; simp only [wordStr, hw]; rfl
     have HXC : Hid (countK t.kind = x.args) := by show _ = _; rw [words_count x hxw.1, hxw.2]
     have hne1 := words_names x hxw.1
     have hne2 : x.name.toList.isEmpty = false := by simpa using hne1
     have hxa := words_args x hxw.1
     clear hw hxw
     by_cases hl : (t.args.length : Int) = x.args
     · have hlb : ((t.args.length : Int) != x.args) = false := by simp [hl]
       go_enter Tryz.func23, Tryz.ntmps23
       go_wp2_with (fail)
       go_quiet ((first | (go_at_call 46; exact word_q HWS.out _ _) | (go_at_call 47; exact count_q HXC.out _ _)))
       go_wp2_with (fail)
       generalize hwN : (w.alloc (.cells #[.int .i64 t.kind, .slice A t.args.length c] 24)).drewN _ = wN
       obtain ⟨hbN, hnN⟩ : Below w.heap.size w wN ∧ wN.heap[w.heap.size]? = some (.cells #[.int .i64 t.kind, .slice A t.args.length c] 24 (0, 0)) := by
        subst hwN
        exact ⟨below_drewN hb1 _, hn1⟩
       have hzN := zC hnN
       have HL := Lib.hid hl
       clear hb1 hn1 hwN hl
       go_loopw [5] (fun i wr => ∃ j : Nat, i = .int .i64 j ∧ j ≤ t.args.length ∧ Hid (t.args.all (okT r) = (t.args.drop j).all (okT r)) ∧ Below w.heap.size w wr ∧ w.heap.size < wr.heap.size ∧ wr.heap[w.heap.size]? = some (.cells #[.int .i64 t.kind, .slice A t.args.length c] 24 (0, 0))) (fun i _ => 6000 - (intOf i).toNat)
       case atStart => exact ⟨0, rfl, by omega, by show _ = _; rw [List.drop_zero], hbN, hzN, hnN⟩
       case round =>
        obtain ⟨j, rfl, hj, HE, hbr, hsz, hy0⟩ := hrel
        have c0 := zG hy0
        have c1 := zF hy0
        by_cases hlt : j < t.args.length
        · obtain ⟨b1, o, rfl, hSb, hcells⟩ := HA.out (by omega)
          obtain ⟨B1, k1, h0, h1, h2, hbl⟩ := arg_cells hcells hlt
          have g0 := (hbr.cell (p := ⟨b1, o + j * 2, none⟩) hbl).trans h0
          have g1 := (hbr.cell (p := ⟨b1, o + j * 2 + 1, none⟩) hbl).trans h1
          have hna := HALL.out _ (List.getElem_mem hlt)
          have hd : t.args.drop j = t.args[j] :: t.args.drop (j + 1) := List.drop_eq_getElem_cons hlt
          generalize t.args[j] = x at *
          have HD := Lib.hid hd
          have H2 := Lib.hid (h2.below hbr)
          have HNA := Lib.hid hna
          clear h0 h1 h2 hd hna hcells
          go_wp2_with (fail)
          refine (HIH.out _ x wr (by omega) HNA.out H2.out).mono ?_
          rintro e w3 ⟨rfl, hb3⟩
          have hb4 := hbr.trans (hb3.mono hbr.size)
          have hs3 := hb3.size
          have hy0' := (hb3.block w.heap.size (by omega)).trans hy0
          cases hxy : okT r x with
          | false =>
            have HF2 : Hid (t.args.all (okT r) = false) := by show _ = _; rw [HE.out, HD.out]; simp only [List.all_cons, hxy, Bool.false_and]
            clear hxy
            go_wp2_with (fail)
            go_ret
            rw [HO.out, HF2.out, Bool.and_false]
            exact ⟨rfl, hb4⟩
          | true =>
            have HF2 : Hid (t.args.all (okT r) = (t.args.drop (j + 1)).all (okT r)) := by show _ = _; rw [HE.out, HD.out]; simp only [List.all_cons, hxy, Bool.true_and]
            clear hxy
            go_wp2_with (fail)
            go_roundw
            case rel => exact ⟨j + 1, by go_num, by omega, HF2, hb4, by omega, hy0'⟩
            case measure => simp [intOf]; omega
        · go_wp2_with (fail)
          have HF2 : Hid (t.args.all (okT r) = true) := by
           show _ = _
           rw [HE.out, List.drop_of_length_le (by omega)]
           rfl
          go_ret
          rw [HO.out, HF2.out, Bool.and_true, show decide ((t.args.length : Int) = x.args) = true by simp [HL.out]]
          exact ⟨rfl, hbr⟩
     · have hlb : ((t.args.length : Int) != x.args) = true := by simp [hl]
       go_enter Tryz.func23, Tryz.ntmps23
       go_wp2_with (fail)
       go_quiet ((first | (go_at_call 46; exact word_q HWS.out _ _) | (go_at_call 47; exact count_q HXC.out _ _)))
       go_wp2_with (fail)
       go_ret
       rw [HO.out]
       rw [show decide ((t.args.length : Int) = x.args) = false by simp [hl]]
       exact ⟨rfl, below_drewN hb1 _⟩
end Go.Proofs.YtaecndmncpfpfaaGreatDoor.Knd
set_option linter.unusedVariables false
set_option linter.unusedSimpArgs false
namespace Go.Proofs.YtaecndmncpfpfaaGreatDoor.L5
open Go.RowKit
theorem infR_ok {b : Bool} {it : Ty} {sides : List Ty} {x : Except (Int × List Int) Ty} {t : Ty} (h : infR b it sides x = .ok t) : b = true ∧ rightE it sides = true ∧ x = .ok t := by
 unfold infR at h
 cases b with
 | false => simp at h
 | true =>
   cases hr : rightE it sides with
   | false => rw [hr] at h; simp at h
   | true => rw [hr] at h; exact ⟨rfl, rfl, by simpa using h⟩
theorem env_law2 {W : World} {it : Ty} {sides : List Ty} {EA SA : Option Addr} {ek sk : Nat} (hE : EvL W (.agg #[.int .i64 it.kind, .slice EA it.args.length ek, .slice SA sides.length sk]) it sides) (hS : SmE it sides) :
    Calls Tryz.prog 13 #[.agg #[.int .i64 it.kind, .slice EA it.args.length ek, .slice SA sides.length sk]] W fun e w' => EvOwn W w' e it sides ∧ Below W.heap.size W w' := by
 obtain ⟨A', k', SA', sk', D, e, h1, h2⟩ := hE
 injection e with e
 injection e with e
 injection e with e1 e2
 injection e2 with e2 e3
 injection e3 with e3 e4
 injection e2 with e5 e6 e7
 injection e3 with e8 e9 e10
 subst e5 e7 e8 e10
 exact env_own D it sides _ _ _ _ W h1 h2 hS
structure Bxn (W : World) (q1 q4 q5 : Nat) (a e m : Array Value) : Prop where
 b1 : W.heap[q1]? = some (.cells a 27 (0, 0))
 b4 : W.heap[q4]? = some (.cells e 29 (0, 0))
 b5 : W.heap[q5]? = some (.cells m 24 (0, 0))
theorem Bxn.below {W W' : World} {q1 q4 q5 : Nat} {a e m : Array Value} (h : Bxn W q1 q4 q5 a e m) (hb : Below W.heap.size W W') : Bxn W' q1 q4 q5 a e m :=
 ⟨(hb.block _ (zC h.b1)).trans h.b1, (hb.block _ (zC h.b4)).trans h.b4, (hb.block _ (zC h.b5)).trans h.b5⟩
theorem free_law {W : World} {v : Value} {n : Nd} (hN : NdL W v n) (hR : RgN 24 n) (hG : Gl W) : Calls Tryz.prog 22 #[v] W fun e w' => FeOut W.heap.size w' e n ∧ Below W.heap.size W w' := by
 obtain ⟨d, hN⟩ := hN
 exact exprFree_any d _ v n W hN hR hG
theorem names_nil {n : Nd} : freeL n = [] ↔ yA 24 n [] = [] := by
 simp only [List.eq_nil_iff_forall_not_mem, mem_freeL]
theorem names_ok {it : Ty} {sides : List Ty} {n : Nd} (h : (showW n).isSome = true) : NoN (resI it sides n) (yA 24 n []) :=
 infer_free zS it sides 24 [] [] n (show_fr h)
theorem right_one {it t : Ty} {sides : List Ty} (h : rightE it sides = true) (ht : RT t) (hl : sides.length < 10) : rightE it (sides ++ [t]) = true := by
 unfold rightE at h ⊢
 simp only [Bool.and_eq_true, Bool.not_eq_true', decide_eq_false_iff_not, decide_eq_true_eq] at h ⊢
 obtain ⟨h1, _, h3⟩ := h
 refine ⟨h1, by simp; omega, ?_⟩
 have aux : ∀ (l : List Ty) (j : Nat), ¬ (0 ≤ ixW j l) → ¬ (0 ≤ ixW j (l ++ [t])) := fun l => by
  induction l with
  | nil =>
    intro j _
    have ht' : (Knd.zH 6 t).isSome = true := ht
    simp [ixW, ht']
  | cons a l ih =>
    intro j hj
    simp only [List.cons_append]
    unfold ixW at hj ⊢
    split at hj
    · rename_i hm
      rw [if_pos hm]
      exact ih _ hj
    · omega
 exact aux _ _ h3
theorem typ_law {W : World} {n : Nat} {v : Value} {t : Ty} (hN : Nar n t) (hT : TyL W v t) : Calls Tryz.prog 24 #[v] W fun e w' => (∃ A c, e = .returned (.agg #[.int .i64 t.kind, .slice A t.args.length c]) ∧ TyN W.heap.size w' (.agg #[.int .i64 t.kind, .slice A t.args.length c]) t) ∧ Below W.heap.size W w' := by
 obtain ⟨d, hT⟩ := hT
 refine (typ_any d n _ v t W hN hT).mono ?_
 rintro e w' ⟨⟨v', he, h⟩, hb⟩
 obtain ⟨A, c, rfl⟩ := h.form
 exact ⟨⟨A, c, he, d, h.move fun b hb hl => ⟨⟨hb, hl⟩, fun _ => rfl⟩⟩, hb⟩
theorem ev_one {V w5 wt w7 : World} {it t : Ty} {sides : List Ty} {IA AA At A' : Option Addr} {ik ak ct c' D : Nat} {cs : List Value} {o1 o2 : Obj} (hV : V.heap.size ≤ w5.heap.size) (hT : TyAt w5 (fun b => V.heap.size ≤ b ∧ some b ≠ (Value.slice AA sides.length ak).ownBlock) D (.agg #[.int .i64 it.kind, .slice IA it.args.length ik]) it)
    (hown : w5.ownsRow V.heap.size 34 2 (.slice AA sides.length ak) sides.length cs) (hargs : ∀ (i : Nat) (a : Ty), sides[i]? = some a → ∃ u0 u1, cs[i * 2]? = some u0 ∧ cs[i * 2 + 1]? = some u1 ∧ TyAt w5 (fun b => V.heap.size ≤ b ∧ some b ≠ (Value.slice AA sides.length ak).ownBlock) D (.agg #[u0, u1]) a)
    (hbt : Below (w5.alloc o1).heap.size (w5.alloc o1) wt) (htt : TyN (w5.alloc o1).heap.size wt (.agg #[.int .i64 t.kind, .slice At t.args.length ct]) t) (hg : (wt.alloc o2).grownBy w7 (Value.slice AA sides.length ak).ownBlock)
    (hown7 : w7.ownsRow V.heap.size 34 2 (.slice A' (sides.length + 1) c') (sides.length + 1) (cs ++ [.int .i64 t.kind, .slice At t.args.length ct])) (hat : (Value.slice A' (sides.length + 1) c').ownBlock = (Value.slice AA sides.length ak).ownBlock ∨ (Value.slice A' (sides.length + 1) c').ownBlock = some (wt.alloc o2).heap.size) :
    EvL (w7.setCell ⟨w5.heap.size, 2, none⟩ (.slice A' (sides.length + 1) c')) (.agg #[.int .i64 it.kind, .slice IA it.args.length ik, .slice A' (sides ++ [t]).length c']) it (sides ++ [t]) := by
 obtain ⟨dt, ht⟩ := htt
 have hlt := hown.lt
 have hs1 : (w5.alloc o1).heap.size = w5.heap.size + 1 := by simp
 have hst := hbt.size
 have hs2 : (wt.alloc o2).heap.size = wt.heap.size + 1 := by simp
 have hs7 := hg.size
 have hsz : ∀ (W : World) (p : Addr) (u : Value), (W.setCell p u).heap.size = W.heap.size := fun W p u => by simp [World.setCell]
 have fart : ∀ b, b < wt.heap.size → b ≠ w5.heap.size → some b ≠ (Value.slice AA sides.length ak).ownBlock → (w7.setCell ⟨w5.heap.size, 2, none⟩ (.slice A' (sides.length + 1) c')).heap[b]? = wt.heap[b]? := fun b hb1 hb2 hne => by
  rw [Below.heap_setCell _ _ _ _ (by show b ≠ w5.heap.size; omega), hg.block b (by omega) hne, Below.heap_alloc _ _ _ hb1]
 have far : ∀ b, b < w5.heap.size → some b ≠ (Value.slice AA sides.length ak).ownBlock → (w7.setCell ⟨w5.heap.size, 2, none⟩ (.slice A' (sides.length + 1) c')).heap[b]? = w5.heap[b]? := fun b hb1 hne => by
  rw [fart b (by omega) (by omega) hne, hbt.block b (by omega), Below.heap_alloc _ _ _ hb1]
 have hl : (sides ++ [t]).length = sides.length + 1 := by simp
 refine ⟨IA, ik, A', c', max D dt, rfl, ty_more D _ (Nat.le_max_left ..) (hT.move fun b hb1 hb2 => ⟨by rw [hsz]; omega, fun _ => World.cell?_of_block (far b hb2 hb1.2)⟩), fun _ => ?_⟩
 have hcl : cs.length = sides.length * 2 := hown.1
 rcases hown7.2 with ⟨e, h0⟩ | ⟨g, cap, cur, e, hbg, hgc, hnc, _⟩
 · injection e with e1 e2 e3
   omega
 · injection e with e1 e2 e3
   subst e1
   have hgl := zC hgc
   have hgne : g ≠ w5.heap.size := by
    rcases hat with h | h
    · have := (hlt g (h.symm.trans rfl)).2; omega
    · have h9 : some g = some (wt.alloc o2).heap.size := h
      injection h9 with h9; omega
   refine ⟨g, 0, rfl, by rw [hsz]; exact hgl, fun j a ha => ?_⟩
   have hgF : ∀ o, (w7.setCell ⟨w5.heap.size, 2, none⟩ (.slice (some ⟨g, 0, none⟩) (sides.length + 1) c')).cell? ⟨g, o, none⟩ = w7.cell? ⟨g, o, none⟩ := fun o => World.cell?_of_block (Below.heap_setCell _ _ _ _ (by show g ≠ w5.heap.size; exact hgne))
   have hjl := (List.getElem?_eq_some_iff.1 ha).1
   rcases Nat.lt_or_ge j sides.length with hj | hj
   · rw [List.getElem?_append_left hj] at ha
     obtain ⟨u0, u1, g0, g1, g2⟩ := hargs j a ha
     refine ⟨u0, u1, ?_, ?_, ty_more D _ (Nat.le_max_left ..) (g2.move fun b hb1 hb2 => ⟨by rw [hsz]; omega, fun _ => World.cell?_of_block (far b hb2 hb1.2)⟩)⟩
     · rw [Nat.zero_add, hgF, hown7.cellAt _ (by first | omega | (simp; done) | (simp; omega)), List.getElem?_append_left (by omega)]; exact g0
     · rw [Nat.zero_add, hgF, hown7.cellAt _ (by first | omega | (simp; done) | (simp; omega)), List.getElem?_append_left (by omega)]; exact g1
   · obtain rfl : j = sides.length := by omega
     rw [List.getElem?_append_right (Nat.le_refl _), Nat.sub_self] at ha
     injection ha with ha
     subst ha
     refine ⟨_, _, ?_, ?_, ty_more dt _ (Nat.le_max_right ..) (ht.move fun b hb1 _ => ⟨by rw [hsz]; omega, fun _ => World.cell?_of_block (fart b hb1.2 (by omega) (fun e => by have := (hlt b e.symm).2; omega))⟩)⟩
     · rw [Nat.zero_add, hgF, hown7.cellAt _ (by first | omega | (simp; done) | (simp; omega)), List.getElem?_append_right (by omega)]; simp [show sides.length * 2 - cs.length = 0 by omega]
     · rw [Nat.zero_add, hgF, hown7.cellAt _ (by first | omega | (simp; done) | (simp; omega)), List.getElem?_append_right (by omega)]; simp [show sides.length * 2 + 1 - cs.length = 1 by omega]
