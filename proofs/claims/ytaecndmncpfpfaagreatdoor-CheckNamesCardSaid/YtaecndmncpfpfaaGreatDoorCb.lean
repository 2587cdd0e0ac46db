import Derived.Test.YtaecndmncpfpfaaGreatDoorKm
import Derived.Test.YtaecndmncpfpfaaGreatDoorSm
namespace Go.Proofs.YtaecndmncpfpfaaGreatDoor
open Go.RowKit
theorem TyAt.lt {w : World} {S : Nat → Prop} {d : Nat} {v : Value} {t : Ty} (h : TyAt w S d v t) : TyAt w (fun k => k < w.heap.size) d v t := h.move fun _ _ hl => ⟨hl, fun _ => rfl⟩
theorem TyAt.set {w w' : World} {S : Nat → Prop} {d : Nat} {v : Value} {t : Ty} (h : TyAt w S d v t) (hk : ∀ k, S k → w'.heap[k]? = w.heap[k]?) : TyAt w' S d v t := h.move fun b hb _ => ⟨hb, fun _ => World.cell?_of_block (hk b hb)⟩
set_option maxRecDepth 100000 in
theorem ckOf_any (k : Int) (A : Option Addr) (n c : Nat) (w : World) :
    Calls Tryz.prog 96 #[.int .i64 k, .slice A n c] w fun e w' => e = .returned (.agg #[.int .i64 k, .slice A n c]) ∧ Below w.heap.size w w' := by
 go_enter Tryz.func96, Tryz.ntmps96
 go_wp2_with (fail)
 refine bodyPost_ret (v := .agg #[.int .i64 k, .slice A n c]) (by simp [results, Tryz.results96, go_sem]) rfl ?_
 exact ⟨rfl, (Below.refl w.heap.size w).alloc (Nat.le_refl _) _⟩
def stV (C : Nat) (k : Int) : Value := if k = -1 then .pointer (some ⟨C, 0, none⟩) else if k = -2 then .pointer (some ⟨C, 2, none⟩) else .pointer none
set_option maxRecDepth 100000 in
theorem standing_any (C : Nat) (k : Int) (A : Option Addr) (n c : Nat) (w : World) :
    Calls Tryz.prog 136 #[.pointer (some ⟨C, 0, none⟩), .agg #[.int .i64 k, .slice A n c]] w fun e w' => e = .returned (stV C k) ∧ Below w.heap.size w w' := by
 have hb := (Below.refl w.heap.size w).alloc (Nat.le_refl _) (.cells #[.int .i64 k, .slice A n c] 34)
 by_cases h1 : k = -1
 · have HR : Hid (stV C k = .pointer (some ⟨C, 0, none⟩)) := by show _ = _; unfold stV; rw [if_pos h1]
   have g1 : (k == -1) = true := by simp [h1]
   clear h1
   go_enter Tryz.func136, Tryz.ntmps136
   go_wp2_with (fail)
   go_ret
   exact ⟨by rw [HR.out]; rfl, hb⟩
 · by_cases h2 : k = -2
   · have HR : Hid (stV C k = .pointer (some ⟨C, 2, none⟩)) := by show _ = _; unfold stV; rw [if_neg h1, if_pos h2]
     have g1 : (k == -1) = false := by simp [h1]
     have g2 : (k == -2) = true := by simp [h2]
     clear h1 h2
     go_enter Tryz.func136, Tryz.ntmps136
     go_wp2_with (fail)
     go_ret
     exact ⟨by rw [HR.out]; rfl, hb⟩
   · have HR : Hid (stV C k = .pointer none) := by show _ = _; unfold stV; rw [if_neg h1, if_neg h2]
     have g1 : (k == -1) = false := by simp [h1]
     have g2 : (k == -2) = false := by simp [h2]
     clear h1 h2
     go_enter Tryz.func136, Tryz.ntmps136
     go_wp2_with (fail)
     go_ret
     exact ⟨by rw [HR.out]; rfl, hb⟩
def IrOut (w' : World) (S : Nat → Prop) (d : Nat) (t : Ty) (e : Ending) : Prop :=
 if (Knd.zH 6 t).isSome then ∃ v, e = .returned (.tuple #[v, .int .i64 0]) ∧ TyAt w' S d v t
 else e = .returned (.tuple #[.agg #[.int .i64 0, .slice none 0 0], .int .i64 50])
set_option maxRecDepth 100000 in
set_option maxHeartbeats 1000000 in
theorem ifRight_any (d : Nat) (S : Nat → Prop) (v : Value) (t : Ty) (w : World) (hT0 : TyAt w S d v t) (hG : Knd.Glob w) :
    Calls Tryz.prog 95 #[v] w fun e w' => IrOut w' S d t e ∧ Below w.heap.size w w' := by
 have hT : TyAt w (fun k => S k ∧ k < w.heap.size) d v t := hT0.move fun _ hb hl => ⟨⟨hb, hl⟩, fun _ => rfl⟩
 obtain ⟨A, c, rfl⟩ := hT.form
 have HT := Lib.hid hT
 have hGl := hG.lt
 have hb2 := ((Below.refl w.heap.size w).alloc (Nat.le_refl _) (.cells #[.int .i64 t.kind, .slice A t.args.length c] 34)).alloc (by simp) (.cells #[.int .i64 0, .slice none 0 0] 34)
 have hx0 := (Below.heap_alloc (w.alloc (.cells #[.int .i64 t.kind, .slice A t.args.length c] 34)) (.cells #[.int .i64 0, .slice none 0 0] 34) w.heap.size (by simp)).trans (heap_alloc_new w _)
 have hx1 : ((w.alloc (.cells #[.int .i64 t.kind, .slice A t.args.length c] 34)).alloc (.cells #[.int .i64 0, .slice none 0 0] 34)).heap[w.heap.size + 1]? = some (.cells #[.int .i64 0, .slice none 0 0] 34 (0, 0)) := by simpa using heap_alloc_new (w.alloc (.cells #[.int .i64 t.kind, .slice A t.args.length c] 34)) (.cells #[.int .i64 0, .slice none 0 0] 34)
 clear hT hT0
 go_enter Tryz.func95, Tryz.ntmps95
 go_wp2_with (fail)
 refine (Knd.check_any d _ _ t _ (HT.out.below hb2) (hG.kept (hb2.block 0 hGl))).mono ?_
 rintro e w1 ⟨he, hb1⟩
 have hb3 := hb2.trans (hb1.mono (by simp; omega))
 have hs1 := hb1.size
 simp only [World.size_alloc] at hs1
 have hy0 := (hb1.block w.heap.size (by simp; omega)).trans hx0
 have hy1 := (hb1.block (w.heap.size + 1) (by simp)).trans hx1
 have c0 := zG hy0
 have c1 := zF hy0
 have d0 := zG hy1
 have d1 := zF hy1
 have f0 := zB hy1 0
 have f1 := zB hy1 1
 have hl1 := zC hy1
 have HT3 := Lib.hid (HT.out.below hb3)
 clear hx0 hx1
 cases hm : Knd.zH 6 t with
 | none =>
   rw [hm] at he
   obtain rfl : e = .returned (.int .i64 20) := he
   have HM := Lib.hid hm
   clear hm
   go_wp2_with (fail)
   refine bodyPost_ret (v := .tuple #[.agg #[.int .i64 0, .slice none 0 0], .int .i64 50]) (by simp [results, Tryz.results95, go_sem, d0, d1]) rfl ?_
   refine ⟨?_, (hb3.setCell (p := ⟨w.heap.size + 1, 0, none⟩) (Nat.le_succ _) _).setCell (p := ⟨w.heap.size + 1, 1, none⟩) (Nat.le_succ _) _⟩
   unfold IrOut
   rw [HM.out]
   rfl
 | some q =>
   rw [hm] at he
   obtain rfl : e = .returned (.int .i64 0) := he
   have HM := Lib.hid hm
   clear hm
   go_wp2_with (fail)
   refine bodyPost_ret (v := .tuple #[.agg #[.int .i64 t.kind, .slice A t.args.length c], .int .i64 0]) (by simp [results, Tryz.results95, go_sem, d0, d1]) rfl ?_
   refine ⟨?_, (hb3.setCell (p := ⟨w.heap.size + 1, 0, none⟩) (Nat.le_succ _) _).setCell (p := ⟨w.heap.size + 1, 1, none⟩) (Nat.le_succ _) _⟩
   unfold IrOut
   rw [HM.out]
   exact ⟨_, rfl, HT3.out.move fun b hb _ => ⟨hb.1, fun _ => World.cell?_of_block (by
    have hne : b ≠ w.heap.size + 1 := by have hb' : b < w.heap.size := hb.2; omega
    rw [Below.heap_setCell _ _ _ _ (by show b ≠ w.heap.size + 1; exact hne), Below.heap_setCell _ _ _ _ (by show b ≠ w.heap.size + 1; exact hne)])⟩⟩
end Go.Proofs.YtaecndmncpfpfaaGreatDoor
namespace Go.Proofs.YtaecndmncpfpfaaGreatDoor
open Go.RowKit
def fitsL (f : Ty × Ty → Ty → Ty → (Ty × Ty) × Bool) : Ty × Ty → List Ty → List Ty → (Ty × Ty) × Bool
 | c, [], [] => (c, true)
 | c, w :: ws, t :: ts => match f c w t with
   | (c', true) => fitsL f c' ws ts
   | (c', false) => (c', false)
 | c, _, _ => (c, false)
def fitsA (f : Ty × Ty → Ty → Ty → (Ty × Ty) × Bool) (c : Ty × Ty) (ws ts : List Ty) : (Ty × Ty) × Bool := if ws.length = ts.length then fitsL f c ws ts else (c, false)
def yB : Nat → Ty × Ty → Ty → Ty → (Ty × Ty) × Bool
 | 0, c, _, _ => (c, false)
 | r + 1, c, w, t => if w.kind = -1 then ((if c.1.kind = 0 then (t, c.2) else c), Knd.sameT (if c.1.kind = 0 then t else c.1) t)
   else if w.kind = -2 then ((if c.2.kind = 0 then (c.1, t) else c), Knd.sameT (if c.2.kind = 0 then t else c.2) t)
   else if w.kind = t.kind then fitsA (yB r) c w.args t.args else (c, false)
def Dp : Nat → Ty → Prop
 | 0, _ => False
 | r + 1, t => t.args.length ≤ 64 ∧ ∀ a ∈ t.args, Dp r a
structure ChAt (w : World) (C : Nat) (P : Nat → Prop) (d : Nat) (c : Ty × Ty) : Prop where
 box : ∃ A k A' k', w.heap[C]? = some (.cells #[.int .i64 c.1.kind, .slice A c.1.args.length k, .int .i64 c.2.kind, .slice A' c.2.args.length k'] 170 (0, 0)) ∧ TyAt w P d (.agg #[.int .i64 c.1.kind, .slice A c.1.args.length k]) c.1 ∧ TyAt w P d (.agg #[.int .i64 c.2.kind, .slice A' c.2.args.length k']) c.2
 glob : Knd.Glob w
 low : 0 < C
 bound : ∀ k, P k → k < C
theorem grown_low {w w' : World} {C : Nat} (h : w.grownBy w' (some C)) (hC : C < w.heap.size) : ∀ k, k < C → w'.heap[k]? = w.heap[k]? := fun k hk => h.block k (by omega) (fun e => by injection e with e; omega)
theorem TyAt.grown {w w' : World} {P : Nat → Prop} {C d : Nat} {v : Value} {t : Ty} (h : TyAt w P d v t) (hg : w.grownBy w' (some C)) (hC : C < w.heap.size) (hP : ∀ k, P k → k < C) : TyAt w' P d v t := h.set fun k hk => grown_low hg hC k (hP k hk)
theorem ChAt.lt {w : World} {P : Nat → Prop} {C d : Nat} {c : Ty × Ty} (h : ChAt w C P d c) : C < w.heap.size := by
 obtain ⟨A, k, A', k', hb, _⟩ := h.box
 exact zC hb
theorem ChAt.below {w w' : World} {P : Nat → Prop} {C d : Nat} {c : Ty × Ty} (h : ChAt w C P d c) (hb : Below w.heap.size w w') : ChAt w' C P d c := by
 have hC := h.lt
 obtain ⟨A, k, A', k', h0, h1, h2⟩ := h.box
 exact ⟨⟨A, k, A', k', (hb.block C hC).trans h0, h1.set fun k hk => hb.block k (by have := h.bound k hk; omega), h2.set fun k hk => hb.block k (by have := h.bound k hk; omega)⟩, h.glob.kept (hb.block _ (by have := h.low; omega)), h.low, h.bound⟩
theorem grown_step {w wr W w3 : World} {C : Nat} (h : w.grownBy wr (some C)) (hb : Below wr.heap.size wr W) (hg : W.grownBy w3 (some C)) : w.grownBy w3 (some C) :=
 ⟨hg.os.trans (hb.os.trans h.os), hg.tape.trans (hb.tape.trans h.tape), hg.output.trans (hb.output.trans h.output), Nat.le_trans h.size (Nat.le_trans hb.size hg.size), fun k hk hne => (hg.block k (by have := h.size; have := hb.size; omega) hne).trans ((hb.block k (by have := h.size; omega)).trans (h.block k hk hne))⟩
def FitOk (r : Nat) : Prop := ∀ (P : Nat → Prop) (dw d C : Nat) (wv tv : Value) (wt t : Ty) (c : Ty × Ty) (w : World), Dp r wt → TyAt w P dw wv wt → TyAt w P d tv t → ChAt w C P d c →
    Calls Tryz.prog 98 #[.pointer (some ⟨C, 0, none⟩), wv, tv] w fun e w' => e = .returned (.bool (yB r c wt t).2) ∧ ChAt w' C P d (yB r c wt t).1 ∧ w.grownBy w' (some C)
set_option maxRecDepth 100000 in
set_option maxHeartbeats 1000000 in
theorem eqFits_any (P : Nat → Prop) (r dw d C : Nat) (A A' : Option Addr) (k k' : Nat) (l m : List Ty) (c : Ty × Ty) (w : World) (hr : FitOk r) (hl : ∀ a ∈ l, Dp r a) (hl2 : l.length ≤ 100) (hA : Knd.yE w P dw A l) (hA' : Knd.yE w P d A' m) (hC : ChAt w C P d c) :
    Calls Tryz.prog 80 #[.slice A l.length k, .slice A' m.length k', .func (.func 98) #[.pointer (some ⟨C, 0, none⟩)] #[]] w fun e w' => e = .returned (.bool (fitsA (yB r) c l m).2) ∧ ChAt w' C P d (fitsA (yB r) c l m).1 ∧ w.grownBy w' (some C) := by
 have HR := Lib.hid hr
 have HA := Lib.hid hA
 have HA' := Lib.hid hA'
 have HL := Lib.hid hl
 have HCC := Lib.hid hC
 have hCs := hC.lt
 have HBD := Lib.hid hC.bound
 clear hr hA hA' hl hC
 by_cases hlen : l.length = m.length
 · have hne : ((l.length : Int) != (m.length : Int)) = false := by simp [hlen]
   have HLEN := Lib.hid hlen
   have HFA : Hid (fitsA (yB r) c l m = fitsL (yB r) c l m) := by show _ = _; unfold fitsA; rw [if_pos hlen]
   clear hlen
   go_enter Tryz.func80, Tryz.ntmps80
   go_wp2_with (fail)
   go_loopw [17] (fun i wr => ∃ (j : Nat) (c1 : Ty × Ty), i = .int .i64 (j : Int) ∧ j ≤ l.length ∧ Hid (fitsA (yB r) c l m = fitsL (yB r) c1 (l.drop j) (m.drop j)) ∧ Hid (ChAt wr C P d c1) ∧ Hid (w.grownBy wr (some C))) (fun i _ => 1000 - (intOf i).toNat)
   case atStart => exact ⟨0, c, rfl, by omega, HFA, HCC, ⟨rfl, rfl, rfl, Nat.le_refl _, fun _ _ _ => rfl⟩⟩
   case round =>
    obtain ⟨j, c1, rfl, hj, HE, HC1, HG⟩ := hrel
    have hsr := HG.out.size
    have hClt := HC1.out.lt
    by_cases hlt : j < l.length
    · have hltm : j < m.length := by have := HLEN.out; omega
      obtain ⟨b, o, rfl, hSb, hcells⟩ := HA.out (by omega)
      obtain ⟨b', o', rfl, hSb', hcells'⟩ := HA'.out (by omega)
      obtain ⟨B1, k1, h0, h1, h2, hbl⟩ := arg_cells hcells hlt
      obtain ⟨B2, k2, h0', h1', h2', hbl'⟩ := arg_cells hcells' hltm
      have hbC : b < C := HBD.out b hSb
      have hbC' : b' < C := HBD.out b' hSb'
      have gc : ∀ (b o : Nat) (u : Value), b < C → w.cell? ⟨b, o, none⟩ = some u → wr.cell? ⟨b, o, none⟩ = some u := fun b o u hb h => (World.cell?_of_block (grown_low HG.out hCs b hb)).trans h
      have g0 := gc _ _ _ hbC h0
      have g1 := gc _ _ _ hbC h1
      have g0' := gc _ _ _ hbC' h0'
      have g1' := gc _ _ _ hbC' h1'
      have hbw' : b' < wr.heap.size := by omega
      have hd : l.drop j = l[j] :: l.drop (j + 1) := List.drop_eq_getElem_cons hlt
      have hd' : m.drop j = m[j] :: m.drop (j + 1) := List.drop_eq_getElem_cons hltm
      have hdp := HL.out _ (List.getElem_mem hlt)
      generalize l[j] = x at *
      generalize m[j] = y at *
      have HD := Lib.hid hd
      have HD' := Lib.hid hd'
      have HDP := Lib.hid hdp
      have H2 := Lib.hid (h2.grown HG.out hCs HBD.out)
      have H2' := Lib.hid (h2'.grown HG.out hCs HBD.out)
      clear h0 h1 h2 h0' h1' h2' hd hd' hdp hcells hcells' gc
      have hba := ((Below.refl wr.heap.size wr).alloc (Nat.le_refl _) (.cells #[.int .i64 x.kind, .slice B1 x.args.length k1] 34)).alloc (by simp) (.cells #[.int .i64 y.kind, .slice B2 y.args.length k2] 34)
      have HCW := Lib.hid (HR.out P dw d C _ _ x y c1 _ HDP.out (H2.out.set fun k hk => hba.block k (by have := HBD.out k hk; omega)) (H2'.out.set fun k hk => hba.block k (by have := HBD.out k hk; omega)) (HC1.out.below hba))
      have HBA := Lib.hid hba
      have HE2 : Hid (fitsA (yB r) c l m = match yB r c1 x y with
       | (c', true) => fitsL (yB r) c' (l.drop (j + 1)) (m.drop (j + 1))
       | (c', false) => (c', false)) := by
       show _ = _
       rw [HE.out, HD.out, HD'.out, fitsL]
      clear hba
      go_wp2_with (fail)
      refine HCW.out.mono ?_
      rintro e w3 ⟨rfl, hch, hg3⟩
      have HG3 := Lib.hid (grown_step HG.out HBA.out hg3)
      obtain ⟨c2, q, hfq⟩ : ∃ c2 q, yB r c1 x y = (c2, q) := ⟨_, _, rfl⟩
      rw [hfq] at hch HE2 ⊢
      have HC2 := Lib.hid hch
      clear hch hg3 hfq g0 g1 g0' g1'
      cases q with
      | false =>
        have HF : Hid (fitsA (yB r) c l m = (c2, false)) := HE2.out
        go_wp2_with (fail)
        go_ret
        rw [HF.out]
        exact ⟨rfl, HC2.out, HG3.out⟩
      | true =>
        have HF : Hid (fitsA (yB r) c l m = fitsL (yB r) c2 (l.drop (j + 1)) (m.drop (j + 1))) := HE2.out
        go_wp2_with (fail)
        go_roundw
        case rel => exact ⟨j + 1, c2, by go_num, by omega, HF, HC2, HG3⟩
        case measure => simp [intOf]; omega
    · have HF : Hid (fitsA (yB r) c l m = (c1, true)) := by
        show _ = _
        rw [HE.out, List.drop_of_length_le (by omega), List.drop_of_length_le (by have := HLEN.out; omega)]
        rfl
      go_wp2_with (fail)
      go_ret
      rw [HF.out]
      exact ⟨rfl, HC1.out, HG.out⟩
 · have hne : ((l.length : Int) != (m.length : Int)) = true := by simp; omega
   have HF : Hid (fitsA (yB r) c l m = (c, false)) := by show _ = _; unfold fitsA; rw [if_neg hlen]
   clear hlen
   go_enter Tryz.func80, Tryz.ntmps80
   go_wp2_with (fail)
   go_ret
   rw [HF.out]
   exact ⟨rfl, HCC.out, ⟨rfl, rfl, rfl, Nat.le_refl _, fun _ _ _ => rfl⟩⟩
theorem grown_trans {w w1 w2 : World} {C : Nat} (h : w.grownBy w1 (some C)) (g : w1.grownBy w2 (some C)) : w.grownBy w2 (some C) :=
 ⟨g.os.trans h.os, g.tape.trans h.tape, g.output.trans h.output, Nat.le_trans h.size g.size, fun k hk hne => (g.block k (by have := h.size; omega) hne).trans (h.block k hk hne)⟩
theorem grown_below {w w1 w2 : World} {C : Nat} (h : w.grownBy w1 (some C)) (hb : Below w1.heap.size w1 w2) : w.grownBy w2 (some C) :=
 grown_trans h ⟨hb.os, hb.tape, hb.output, hb.size, fun k hk _ => hb.block k hk⟩
theorem ty_args {w : World} {S : Nat → Prop} {d : Nat} {A : Option Addr} {k : Nat} {t : Ty} (h : TyAt w S d (.agg #[.int .i64 t.kind, .slice A t.args.length k]) t) : ∃ d', d = d' + 1 ∧ Knd.yE w S d' A t.args := by
 cases d with
 | zero => exact h.elim
 | succ d =>
   obtain ⟨A', k', he, _, hA⟩ := h
   injection he with he
   have := congrArg Array.toList he
   simp only [List.cons.injEq, Value.slice.injEq, true_and, and_true] at this
   exact ⟨d, rfl, by rw [this.1]; exact hA⟩
theorem ty_more : ∀ (d e : Nat) {w : World} {S : Nat → Prop} {v : Value} {t : Ty}, d ≤ e → TyAt w S d v t → TyAt w S e v t
 | 0, _, _, _, _, _, _, h => h.elim
 | d + 1, 0, _, _, _, _, h, _ => absurd h (by omega)
 | d + 1, e + 1, w, S, v, t, hle, ⟨A, c, he, hc, hA⟩ => ⟨A, c, he, hc, fun hl => by
   obtain ⟨b, o, h1, h2, h3⟩ := hA hl
   exact ⟨b, o, h1, h2, fun j a ha => by
    obtain ⟨u0, u1, g0, g1, g2⟩ := h3 j a ha
    exact ⟨u0, u1, g0, g1, ty_more d e (by omega) g2⟩⟩⟩
theorem args_more {d e : Nat} {w : World} {S : Nat → Prop} {A : Option Addr} {l : List Ty} (h : d ≤ e) (hA : Knd.yE w S d A l) : Knd.yE w S e A l := fun hl => by
 obtain ⟨b, o, h1, h2, h3⟩ := hA hl
 exact ⟨b, o, h1, h2, fun j a ha => by
  obtain ⟨u0, u1, g0, g1, g2⟩ := h3 j a ha
  exact ⟨u0, u1, g0, g1, ty_more d e h g2⟩⟩
theorem set4_a {w : World} {C : Nat} {a b c d x y : Value} {T : TypeId} (h : w.heap[C]? = some (.cells #[a, b, c, d] T (0, 0))) : ((w.setCell ⟨C, 0, none⟩ x).setCell ⟨C, 1, none⟩ y).heap[C]? = some (.cells #[x, y, c, d] T (0, 0)) := by
 simp [World.setCell, Array.getElem?_modify, h]
theorem set4_b {w : World} {C : Nat} {a b c d x y : Value} {T : TypeId} (h : w.heap[C]? = some (.cells #[a, b, c, d] T (0, 0))) : ((w.setCell ⟨C, 2, none⟩ x).setCell ⟨C, 3, none⟩ y).heap[C]? = some (.cells #[a, b, x, y] T (0, 0)) := by
 simp [World.setCell, Array.getElem?_modify, h]
theorem cell4 {w : World} {C : Nat} {a b c d : Value} {T : TypeId} (h : w.heap[C]? = some (.cells #[a, b, c, d] T (0, 0))) : w.cell? ⟨C, 0, none⟩ = some a ∧ w.cell? ⟨C, 1, none⟩ = some b ∧ w.cell? ⟨C, 2, none⟩ = some c ∧ w.cell? ⟨C, 3, none⟩ = some d := by simp [World.cell?, h]
theorem set_low {w : World} {C k o o' : Nat} {x y : Value} (hk : k < C) : ((w.setCell ⟨C, o, none⟩ x).setCell ⟨C, o', none⟩ y).heap[k]? = w.heap[k]? := by
 rw [Below.heap_setCell _ _ _ _ (by show k ≠ C; omega), Below.heap_setCell _ _ _ _ (by show k ≠ C; omega)]
theorem set_grown {w : World} {C o o' : Nat} {x y : Value} : w.grownBy ((w.setCell ⟨C, o, none⟩ x).setCell ⟨C, o', none⟩ y) (some C) :=
 ⟨rfl, rfl, rfl, by simp [World.setCell], fun k _ hne => by
  have hk : k ≠ C := fun e => hne (by rw [e])
  rw [Below.heap_setCell _ _ _ _ (by show k ≠ C; exact hk), Below.heap_setCell _ _ _ _ (by show k ≠ C; exact hk)]⟩
set_option maxRecDepth 100000 in
set_option maxHeartbeats 2000000 in
theorem fits_any : ∀ r : Nat, FitOk r
 | 0 => fun P dw d C wv tv wt t c w hD _ _ _ => hD.elim
 | r + 1 => fun P dw d C wv tv wt t c w hD hW hT hCh => by
   obtain ⟨hlen, hall⟩ := hD
   have IH := fits_any r
   have HIH := Lib.hid IH
   have HALL := Lib.hid hall
   have hCl := hCh.lt
   have HBD := Lib.hid hCh.bound
   have HCH := Lib.hid hCh
   have HW := Lib.hid hW
   have HT := Lib.hid hT
   obtain ⟨A, k, rfl⟩ := hW.form
   obtain ⟨A', k', rfl⟩ := hT.form
   have hb2 := ((Below.refl w.heap.size w).alloc (Nat.le_refl _) (.cells #[.int .i64 wt.kind, .slice A wt.args.length k] 34)).alloc (by simp) (.cells #[.int .i64 t.kind, .slice A' t.args.length k'] 34)
   have hx0 := (Below.heap_alloc (w.alloc (.cells #[.int .i64 wt.kind, .slice A wt.args.length k] 34)) (.cells #[.int .i64 t.kind, .slice A' t.args.length k'] 34) w.heap.size (by simp)).trans (heap_alloc_new w _)
   have hx1 : ((w.alloc (.cells #[.int .i64 wt.kind, .slice A wt.args.length k] 34)).alloc (.cells #[.int .i64 t.kind, .slice A' t.args.length k'] 34)).heap[w.heap.size + 1]? = some (.cells #[.int .i64 t.kind, .slice A' t.args.length k'] 34 (0, 0)) := by simpa using heap_alloc_new (w.alloc (.cells #[.int .i64 wt.kind, .slice A wt.args.length k] 34)) (.cells #[.int .i64 t.kind, .slice A' t.args.length k'] 34)
   have hs2 : ((w.alloc (.cells #[.int .i64 wt.kind, .slice A wt.args.length k] 34)).alloc (.cells #[.int .i64 t.kind, .slice A' t.args.length k'] 34)).heap.size = w.heap.size + 2 := by simp
   have HB2 := Lib.hid hb2
   have HX0 := Lib.hid hx0
   have HX1 := Lib.hid hx1
   clear hW hT hCh IH hall hb2 hx0 hx1
   go_enter Tryz.func98, Tryz.ntmps98
   go_wp2_with (fail)
   generalize (w.alloc (.cells #[.int .i64 wt.kind, .slice A wt.args.length k] 34)).alloc (.cells #[.int .i64 t.kind, .slice A' t.args.length k'] 34) = w0 at *
   refine (standing_any C wt.kind A wt.args.length k w0).mono ?_
   rintro e w1 ⟨rfl, hb1⟩
   have HB1 := Lib.hid (HB2.out.trans (hb1.mono (by omega)))
   have hy0 := below_at hb1 HX0.out
   have hy1 := below_at hb1 HX1.out
   have x0 := zG hy0
   have x1 := zF hy0
   have y0 := zG hy1
   have y1 := zF hy1
   have hl1 := zC hy1
   have HC1 := Lib.hid (HCH.out.below HB1.out)
   have HW1 := Lib.hid (HW.out.set fun k hk => HB1.out.block k (by have := HBD.out k hk; omega))
   have HT1 := Lib.hid (HT.out.set fun k hk => HB1.out.block k (by have := HBD.out k hk; omega))
   have HY0 := Lib.hid hy0
   have HY1 := Lib.hid hy1
   have HGR : Hid (w.grownBy w1 (some C)) := ⟨HB1.out.os, HB1.out.tape, HB1.out.output, HB1.out.size, fun k hk _ => HB1.out.block k hk⟩
   clear hb1 hy0 hy1 HX0 HX1 HB2 HCH HW HT
   obtain ⟨CA, ck, CA', ck', hbx, ha, hb⟩ := HC1.out.box
   have HBX := Lib.hid hbx
   have HTA := Lib.hid ha
   have HTB := Lib.hid hb
   obtain ⟨z0, z1, z2, z3⟩ := cell4 hbx
   have hCl1 := zC hbx
   have zf0 := zB hbx 0
   have zf1 := zB hbx 1
   have zf2 := zB hbx 2
   have zf3 := zB hbx 3
   clear hbx ha hb
   by_cases h1 : wt.kind = -1
   · have hst : stV C wt.kind = .pointer (some ⟨C, 0, none⟩) := by unfold stV; rw [if_pos h1]
     rw [hst]
     have HFT : Hid (yB (r + 1) c wt t = ((if c.1.kind = 0 then (t, c.2) else c), Knd.sameT (if c.1.kind = 0 then t else c.1) t)) := by show _ = _; rw [yB, if_pos h1]
     clear h1 hst
     by_cases h0 : c.1.kind = 0
     · rw [h0] at z0
       have HF2 : Hid (yB (r + 1) c wt t = ((t, c.2), Knd.sameT t t)) := by show _ = _; rw [HFT.out, if_pos h0, if_pos h0]
       clear h0
       go_upto_region 6 with (fail)
       obtain ⟨wz, hwz⟩ : ∃ wz, wz = ((w1.setCell ⟨C, 0, none⟩ (.int .i64 t.kind)).setCell ⟨C, 1, none⟩ (.slice A' t.args.length k')) := ⟨_, rfl⟩
       rw [← hwz]
       have HZ : Hid (wz.heap[C]? = some (.cells #[.int .i64 t.kind, .slice A' t.args.length k', .int .i64 c.2.kind, .slice CA' c.2.args.length ck'] 170 (0, 0))) := by rw [hwz]; exact set4_a HBX.out
       have HTz : Hid (TyAt wz P d (.agg #[.int .i64 t.kind, .slice A' t.args.length k']) t) := by rw [hwz]; exact HT1.out.set fun k hk => set_low (HBD.out k hk)
       have HTBz : Hid (TyAt wz P d (.agg #[.int .i64 c.2.kind, .slice CA' c.2.args.length ck']) c.2) := by rw [hwz]; exact HTB.out.set fun k hk => set_low (HBD.out k hk)
       have HGz : Hid (Knd.Glob wz) := HC1.out.glob.kept (by rw [hwz]; exact set_low HC1.out.low)
       have HCHz : Hid (ChAt wz C P d (t, c.2)) := ⟨⟨A', k', CA', ck', HZ.out, HTz.out, HTBz.out⟩, HGz.out, HC1.out.low, HBD.out⟩
       have HGRz : Hid (w.grownBy wz (some C)) := grown_trans HGR.out (by rw [hwz]; exact set_grown)
       have hy1z : wz.heap[w.heap.size + 1]? = some (.cells #[.int .i64 t.kind, .slice A' t.args.length k'] 34 (0, 0)) := by
        rw [hwz, Below.heap_setCell _ _ _ _ (by show w.heap.size + 1 ≠ C; omega), Below.heap_setCell _ _ _ _ (by show w.heap.size + 1 ≠ C; omega)]
        exact HY1.out
       clear hwz x0 x1 y0 y1 z0 z1 z2 z3 zf0 zf1 zf2 zf3 hCl1 hl1
       have y0 := zG hy1z
       have y1 := zF hy1z
       obtain ⟨z0, z1, z2, z3⟩ := cell4 HZ.out
       clear hy1z
       refine wp_region_still_tail 4 (by kernel_rfl) (by kernel_rfl) ?_
       simp only [List.take_succ_cons, List.take_zero, List.drop_succ_cons, List.drop_zero]
       change wpStill _ _ (World.drew _) _ _ _
       repeat still_step
       refine wpStill_nil ?_
       change wpList _ _ _ _ _ (World.drew _)
       go_wp2_with (fail)
       refine (Knd.same_any d d _ _ _ _ t t wz.drew (HTz.out.set fun _ _ => rfl) (HTz.out.set fun _ _ => rfl) HGz.out).mono ?_
       rintro e w5 ⟨rfl, hb5⟩
       have hb5' : Below wz.heap.size wz w5 := (Below.refl wz.heap.size wz).drew.trans hb5
       have HCH5 := Lib.hid (HCHz.out.below hb5')
       have HG5 : Hid (w.grownBy w5 (some C)) := grown_below HGRz.out hb5'
       clear hb5 hb5'
       go_wp2_with (fail)
       go_ret
       exact ⟨by rw [HF2.out]; rfl, by rw [HF2.out]; exact HCH5.out, HG5.out⟩
     · have h0b : (c.1.kind == 0) = false := by simp [h0]
       have HF2 : Hid (yB (r + 1) c wt t = (c, Knd.sameT c.1 t)) := by show _ = _; rw [HFT.out, if_neg h0, if_neg h0]
       clear h0
       go_upto_region 6 with (fail)
       obtain ⟨wz, hwz⟩ : ∃ wz, wz = w1 := ⟨_, rfl⟩
       have HTz : Hid (TyAt wz P d (.agg #[.int .i64 t.kind, .slice A' t.args.length k']) t) := by rw [hwz]; exact HT1.out
       have HGz : Hid (Knd.Glob wz) := by rw [hwz]; exact HC1.out.glob
       have HCHz : Hid (ChAt wz C P d c) := by rw [hwz]; exact HC1.out
       have HGRz : Hid (w.grownBy wz (some C)) := by rw [hwz]; exact HGR.out
       subst hwz
       refine wp_region_still_tail 4 (by kernel_rfl) (by kernel_rfl) ?_
       simp only [List.take_succ_cons, List.take_zero, List.drop_succ_cons, List.drop_zero]
       change wpStill _ _ (World.drew _) _ _ _
       repeat still_step
       refine wpStill_nil ?_
       change wpList _ _ _ _ _ (World.drew _)
       go_wp2_with (fail)
       refine (Knd.same_any d d _ _ _ _ c.1 t wz.drew (HTA.out.set fun _ _ => rfl) (HTz.out.set fun _ _ => rfl) HGz.out).mono ?_
       rintro e w5 ⟨rfl, hb5⟩
       have hb5' : Below wz.heap.size wz w5 := (Below.refl wz.heap.size wz).drew.trans hb5
       have HCH5 := Lib.hid (HCHz.out.below hb5')
       have HG5 : Hid (w.grownBy w5 (some C)) := grown_below HGRz.out hb5'
       clear hb5 hb5'
       go_wp2_with (fail)
       go_ret
       exact ⟨by rw [HF2.out]; rfl, by rw [HF2.out]; exact HCH5.out, HG5.out⟩
   · by_cases h2 : wt.kind = -2
     · have hst : stV C wt.kind = .pointer (some ⟨C, 2, none⟩) := by unfold stV; rw [if_neg h1, if_pos h2]
       rw [hst]
       have HFT : Hid (yB (r + 1) c wt t = ((if c.2.kind = 0 then (c.1, t) else c), Knd.sameT (if c.2.kind = 0 then t else c.2) t)) := by show _ = _; rw [yB, if_neg h1, if_pos h2]
       clear h1 h2 hst
       by_cases h0 : c.2.kind = 0
       · rw [h0] at z2
         have HF2 : Hid (yB (r + 1) c wt t = ((c.1, t), Knd.sameT t t)) := by show _ = _; rw [HFT.out, if_pos h0, if_pos h0]
         clear h0
         go_upto_region 6 with (fail)
         obtain ⟨wz, hwz⟩ : ∃ wz, wz = ((w1.setCell ⟨C, 2, none⟩ (.int .i64 t.kind)).setCell ⟨C, 3, none⟩ (.slice A' t.args.length k')) := ⟨_, rfl⟩
         rw [← hwz]
         have HZ : Hid (wz.heap[C]? = some (.cells #[.int .i64 c.1.kind, .slice CA c.1.args.length ck, .int .i64 t.kind, .slice A' t.args.length k'] 170 (0, 0))) := by rw [hwz]; exact set4_b HBX.out
         have HTz : Hid (TyAt wz P d (.agg #[.int .i64 t.kind, .slice A' t.args.length k']) t) := by rw [hwz]; exact HT1.out.set fun k hk => set_low (HBD.out k hk)
         have HTBz : Hid (TyAt wz P d (.agg #[.int .i64 c.1.kind, .slice CA c.1.args.length ck]) c.1) := by rw [hwz]; exact HTA.out.set fun k hk => set_low (HBD.out k hk)
         have HGz : Hid (Knd.Glob wz) := HC1.out.glob.kept (by rw [hwz]; exact set_low HC1.out.low)
         have HCHz : Hid (ChAt wz C P d (c.1, t)) := ⟨⟨CA, ck, A', k', HZ.out, HTBz.out, HTz.out⟩, HGz.out, HC1.out.low, HBD.out⟩
         have HGRz : Hid (w.grownBy wz (some C)) := grown_trans HGR.out (by rw [hwz]; exact set_grown)
         have hy1z : wz.heap[w.heap.size + 1]? = some (.cells #[.int .i64 t.kind, .slice A' t.args.length k'] 34 (0, 0)) := by
          rw [hwz, Below.heap_setCell _ _ _ _ (by show w.heap.size + 1 ≠ C; omega), Below.heap_setCell _ _ _ _ (by show w.heap.size + 1 ≠ C; omega)]
          exact HY1.out
         clear hwz x0 x1 y0 y1 z0 z1 z2 z3 zf0 zf1 zf2 zf3 hCl1 hl1
         have y0 := zG hy1z
         have y1 := zF hy1z
         obtain ⟨z0, z1, z2, z3⟩ := cell4 HZ.out
         clear hy1z
         refine wp_region_still_tail 4 (by kernel_rfl) (by kernel_rfl) ?_
         simp only [List.take_succ_cons, List.take_zero, List.drop_succ_cons, List.drop_zero]
         change wpStill _ _ (World.drew _) _ _ _
         repeat still_step
         refine wpStill_nil ?_
         change wpList _ _ _ _ _ (World.drew _)
         go_wp2_with (fail)
         refine (Knd.same_any d d _ _ _ _ t t wz.drew (HTz.out.set fun _ _ => rfl) (HTz.out.set fun _ _ => rfl) HGz.out).mono ?_
         rintro e w5 ⟨rfl, hb5⟩
         have hb5' : Below wz.heap.size wz w5 := (Below.refl wz.heap.size wz).drew.trans hb5
         have HCH5 := Lib.hid (HCHz.out.below hb5')
         have HG5 : Hid (w.grownBy w5 (some C)) := grown_below HGRz.out hb5'
         clear hb5 hb5'
         go_wp2_with (fail)
         go_ret
         exact ⟨by rw [HF2.out]; rfl, by rw [HF2.out]; exact HCH5.out, HG5.out⟩
       · have h0b : (c.2.kind == 0) = false := by simp [h0]
         have HF2 : Hid (yB (r + 1) c wt t = (c, Knd.sameT c.2 t)) := by show _ = _; rw [HFT.out, if_neg h0, if_neg h0]
         clear h0
         go_upto_region 6 with (fail)
         obtain ⟨wz, hwz⟩ : ∃ wz, wz = w1 := ⟨_, rfl⟩
         have HTz : Hid (TyAt wz P d (.agg #[.int .i64 t.kind, .slice A' t.args.length k']) t) := by rw [hwz]; exact HT1.out
         have HGz : Hid (Knd.Glob wz) := by rw [hwz]; exact HC1.out.glob
         have HCHz : Hid (ChAt wz C P d c) := by rw [hwz]; exact HC1.out
         have HGRz : Hid (w.grownBy wz (some C)) := by rw [hwz]; exact HGR.out
         subst hwz
         refine wp_region_still_tail 4 (by kernel_rfl) (by kernel_rfl) ?_
         simp only [List.take_succ_cons, List.take_zero, List.drop_succ_cons, List.drop_zero]
         change wpStill _ _ (World.drew _) _ _ _
         repeat still_step
         refine wpStill_nil ?_
         change wpList _ _ _ _ _ (World.drew _)
         go_wp2_with (fail)
         refine (Knd.same_any d d _ _ _ _ c.2 t wz.drew (HTB.out.set fun _ _ => rfl) (HTz.out.set fun _ _ => rfl) HGz.out).mono ?_
         rintro e w5 ⟨rfl, hb5⟩
         have hb5' : Below wz.heap.size wz w5 := (Below.refl wz.heap.size wz).drew.trans hb5
         have HCH5 := Lib.hid (HCHz.out.below hb5')
         have HG5 : Hid (w.grownBy w5 (some C)) := grown_below HGRz.out hb5'
         clear hb5 hb5'
         go_wp2_with (fail)
         go_ret
         exact ⟨by rw [HF2.out]; rfl, by rw [HF2.out]; exact HCH5.out, HG5.out⟩
     · have hst : stV C wt.kind = .pointer none := by unfold stV; rw [if_neg h1, if_neg h2]
       rw [hst]
       have HFT : Hid (yB (r + 1) c wt t = if wt.kind = t.kind then fitsA (yB r) c wt.args t.args else (c, false)) := by show _ = _; rw [yB, if_neg h1, if_neg h2]
       clear h1 h2 hst
       by_cases hk : wt.kind = t.kind
       · have hkb : (wt.kind == t.kind) = true := by simp [hk]
         have HF2 : Hid (yB (r + 1) c wt t = fitsA (yB r) c wt.args t.args) := by show _ = _; rw [HFT.out, if_pos hk]
         clear hk
         obtain ⟨dw', hdw, hWA⟩ := ty_args HW1.out
         obtain ⟨d', hd, hTA⟩ := ty_args HT1.out
         have HEQ := Lib.hid (eqFits_any P r dw' d C A A' k k' wt.args t.args c w1 HIH.out HALL.out (by omega) hWA (args_more (by omega) hTA) HC1.out)
         clear hWA hTA
         go_wp2_with (fail)
         refine HEQ.out.mono ?_
         rintro e w5 ⟨rfl, hch, hg⟩
         have HCH5 := Lib.hid hch
         have HG5 := Lib.hid (grown_trans HGR.out hg)
         clear hch hg
         go_wp2_with (fail)
         go_ret
         exact ⟨by rw [HF2.out]; rfl, by rw [HF2.out]; exact HCH5.out, HG5.out⟩
       · have hkb : (wt.kind == t.kind) = false := by simp [hk]
         have HF2 : Hid (yB (r + 1) c wt t = (c, false)) := by show _ = _; rw [HFT.out, if_neg hk]
         clear hk
         go_wp2_with (fail)
         go_ret
         exact ⟨by rw [HF2.out]; rfl, by rw [HF2.out]; exact HC1.out, HGR.out⟩
