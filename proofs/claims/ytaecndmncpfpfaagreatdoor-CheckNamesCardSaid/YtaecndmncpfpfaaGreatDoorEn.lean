import Derived.Test.YtaecndmncpfpfaaGreatDoorOfn
set_option linter.unusedVariables false
set_option linter.unusedSimpArgs false
namespace Go.Proofs.YtaecndmncpfpfaaGreatDoor.L5
open Go.RowKit
theorem info37 : (Tryz.prog.info? 34).map (fun i => (i.zero, i.size, i.bytes)) = some (some (.agg #[.int .i64 0, .slice none 0 0]), 2, 32) := by kernel_rfl
structure OfInv (w : World) (v0 : Value) (t : Ty) (kd : Int) (d j : Nat) (vs : Value) (cs : List Value) (wr : World) : Prop where
 below : Below w.heap.size w wr
 size : w.heap.size + 2 ≤ wr.heap.size
 box : wr.heap[w.heap.size]? = some (.cells #[.int .i64 kd, v0] 24 (0, 0))
 res : wr.heap[w.heap.size + 1]? = some (.cells #[.int .i64 0, .slice none 0 0] 34 (0, 0))
 own : wr.ownsRow (w.heap.size + 2) 34 2 vs j cs
 args : ∀ (i : Nat) (a : Ty), i < j → t.args[i]? = some a → ∃ u0 u1, cs[i * 2]? = some u0 ∧ cs[i * 2 + 1]? = some u1 ∧ TyAt wr (fun b => w.heap.size + 2 ≤ b ∧ some b ≠ vs.ownBlock) d (.agg #[u0, u1]) a
theorem OfInv.next {w wr w3 w7 : World} {v0 vs v' u0 u1 : Value} {t a : Ty} {kd : Int} {d j : Nat} {cs : List Value} {o1 o2 : Obj} (h : OfInv w v0 t kd d j vs cs wr) (hb : Below (wr.alloc o1).heap.size (wr.alloc o1) w3) (hT : TyAt w3 (fun b => (wr.alloc o1).heap.size ≤ b) d (.agg #[u0, u1]) a) (ha : t.args[j]? = some a)
    (hg : (w3.alloc o2).grownBy w7 vs.ownBlock) (hown7 : w7.ownsRow (w.heap.size + 2) 34 2 v' (j + 1) (cs ++ [u0, u1])) (hat : v'.ownBlock = vs.ownBlock ∨ v'.ownBlock = some (w3.alloc o2).heap.size) :
    OfInv w v0 t kd d (j + 1) v' (cs ++ [u0, u1]) w7 := by
 have hs := h.size
 have hs3 := hb.size
 have e1 : (wr.alloc o1).heap.size = wr.heap.size + 1 := by simp
 have e3 : (w3.alloc o2).heap.size = w3.heap.size + 1 := by simp
 have hs7 := hg.size
 have hvs : ∀ b, vs.ownBlock = some b → w.heap.size + 2 ≤ b ∧ b < wr.heap.size := h.own.lt
 have step3 : ∀ b, b < w3.heap.size → some b ≠ vs.ownBlock → w7.heap[b]? = w3.heap[b]? := fun b hl hne => by
  rw [hg.block b (by omega) hne, Below.heap_alloc _ _ _ hl]
 have stepr : ∀ b, b < wr.heap.size → some b ≠ vs.ownBlock → w7.heap[b]? = wr.heap[b]? := fun b hl hne => by
  rw [step3 b (by omega) hne, hb.block b (by omega), Below.heap_alloc _ _ _ hl]
 have ne1 : ∀ b, b < w.heap.size + 2 → some b ≠ vs.ownBlock := fun b hl e => by have := (hvs b e.symm).1; omega
 have hbw : Below w.heap.size w w7 := ((h.below.alloc (by omega) o1).trans (hb.mono (by omega))).alloc (by omega) o2 |>.grown hg (by omega) (fun k hk => by have := (hvs k hk).1; omega)
 refine ⟨hbw, by omega, ?_, ?_, hown7, fun i b hi hib => ?_⟩
 · rw [stepr _ (by omega) (ne1 _ (by omega))]; exact h.box
 · rw [stepr _ (by omega) (ne1 _ (by omega))]; exact h.res
 · have hcl : cs.length = j * 2 := h.own.1
   rcases Nat.lt_or_ge i j with hlt | hge
   · obtain ⟨x0, x1, h0, h1, h2⟩ := h.args i b hlt hib
     refine ⟨x0, x1, by rw [List.getElem?_append_left (by omega)]; exact h0, by rw [List.getElem?_append_left (by omega)]; exact h1, h2.move fun k hk hl => ⟨⟨hk.1, fun e => ?_⟩, fun _ => World.cell?_of_block (stepr k hl hk.2)⟩⟩
     rcases hat with hh | hh
     · exact hk.2 (e.trans hh)
     · rw [hh, e3] at e; injection e; omega
   · obtain rfl : i = j := by omega
     rw [ha] at hib
     injection hib with hib
     subst hib
     have nev : ∀ k, wr.heap.size + 1 ≤ k → some k ≠ vs.ownBlock := fun k hk e => by have := (hvs k e.symm).2; omega
     refine ⟨u0, u1, by rw [List.getElem?_append_right (by omega)]; simp [show i * 2 - cs.length = 0 by omega], by rw [List.getElem?_append_right (by omega)]; simp [show i * 2 + 1 - cs.length = 1 by omega], hT.move fun k hk hl => ⟨⟨by omega, fun e => ?_⟩, fun _ => World.cell?_of_block (step3 k hl (nev k (by omega)))⟩⟩
     rcases hat with hh | hh
     · rw [hh] at e; exact nev k (by omega) e
     · rw [hh, e3] at e; injection e; omega
set_option maxRecDepth 100000 in
set_option maxHeartbeats 1000000 in
theorem typ_any : ∀ (d n : Nat) (S : Nat → Prop) (v : Value) (t : Ty) (w : World), Nar n t → TyAt w S d v t →
    Calls Tryz.prog 24 #[v] w fun e w' => (∃ v', e = .returned v' ∧ TyAt w' (fun b => w.heap.size ≤ b) d v' t) ∧ Below w.heap.size w w'
 | 0, n, S, v, t, w, _, hT => hT.elim
 | d + 1, 0, S, v, t, w, hN, _ => hN.elim
 | d + 1, n + 1, S, v, t, w, hN, hT => by
   obtain ⟨i0, hi, hq0, hq1, hq2⟩ := info_parts info37
   obtain ⟨hlen, hall⟩ := hN
   have IH := typ_any d n
   have HIH := Lib.hid IH
   have HALL := Lib.hid hall
   have HT := Lib.hid hT
   obtain ⟨A, c, rfl, hlc, hA⟩ := hT
   have HA := Lib.hid hA
   clear hA IH hall
   go_enter Tryz.func24, Tryz.ntmps24
   go_wp2_with (fail)
   go_loopw [3, 9] (fun vs i wr => ∃ (j : Nat) (cs : List Value), i = .int .i64 j ∧ j ≤ t.args.length ∧ OfInv w (.slice A t.args.length c) t t.kind d j vs cs wr) (fun _ i _ => 6000 - (intOf i).toNat)
   case atStart =>
    refine ⟨0, [], rfl, by omega, ((Below.refl _ _).alloc (Nat.le_refl _) _).alloc (by simp) _, by simp, ?_, ?_, World.ownsRow_nil _ _ _ _, fun i a hi => by omega⟩
    · rw [Below.heap_alloc _ _ _ (by simp)]; exact heap_alloc_new w _
    · exact (by simpa using heap_alloc_new (w.alloc _) _)
   case round =>
    obtain ⟨j, cs, rfl, hj, hI⟩ := hrel
    obtain ⟨vs, rfl⟩ : ∃ vs : Value, vs = u3 := ⟨_, rfl⟩
    have HI := Lib.hid hI
    have b0 := zG hI.box
    have b1 := zF hI.box
    have r0 := zG hI.res
    have r1 := zF hI.res
    have f0 := zB hI.res 0
    have f1 := zB hI.res 1
    have hbr := hI.below
    have hsz := hI.size
    clear hI
    by_cases hlt : j < t.args.length
    · obtain ⟨b, o, rfl, hSb, hcells⟩ := HA.out (by omega)
      obtain ⟨B1, k1, h0, h1, h2, hbl⟩ := arg_cells hcells hlt
      have g0 := (hbr.cell (p := ⟨b, o + j * 2, none⟩) hbl).trans h0
      have g1 := (hbr.cell (p := ⟨b, o + j * 2 + 1, none⟩) hbl).trans h1
      have hna := HALL.out _ (List.getElem_mem hlt)
      have hat : t.args[j]? = some t.args[j] := List.getElem?_eq_getElem hlt
      generalize t.args[j] = a at *
      have HAT := Lib.hid hat
      have H2 := Lib.hid ((h2.below hbr).below ((Below.refl wr.heap.size wr).alloc (Nat.le_refl _) (.cells #[.int .i64 a.kind, .slice B1 a.args.length k1] 24)))
      have HNA := Lib.hid hna
      clear h0 h1 h2 hat hna hcells
      go_wp2_with (fail)
      refine (HIH.out S _ a _ HNA.out H2.out).mono ?_
      rintro e w3 ⟨⟨v3, rfl, hT3⟩, hb3⟩
      obtain ⟨A3, c3, rfl⟩ := hT3.form
      have HT3 := Lib.hid hT3
      have hs3 := hb3.size
      have hown3 := HI.out.own.kept (row := none) ⟨hb3.os, hb3.tape, hb3.output, by have := hb3.size; simp at this; omega, fun k hk _ => (hb3.block k (by simp; omega)).trans (Below.heap_alloc wr _ k hk)⟩ (by cases hv : vs.ownBlock <;> simp)
      clear hT3
      simp only [World.size_alloc] at hs3
      go_wp2_with (at_builtin; refine wpList_append_own_at _ rfl _ _ 32 rfl (w.heap.size + 2) 34 i0 (.agg #[.int .i64 0, .slice none 0 0]) 2 32 Tryz.underlying32 hi hq0 hq1 hq2 rfl (by decide) vs j cs rfl (hown3.alloc _) ⟨w3.heap.size, 0, none⟩ 1 1 [.int .i64 a.kind, .slice A3 a.args.length c3] rfl rfl (cell_two_new _ _ _ _ _ rfl) (two_one _ _ _ _) (by unfold maxLen; omega) (by omega) (by simp; omega) ?_; intro v' w7 hown7 hgrow7 _ hat7)
      go_roundw
      case rel => exact ⟨j + 1, _, by go_num, by omega, OfInv.next HI.out hb3 HT3.out HAT.out hgrow7 hown7 hat7⟩
      case measure => simp [intOf]; omega
    · obtain rfl : j = t.args.length := by omega
      have hO := HI.out
      obtain ⟨A', c', rfl⟩ := own_slice hO.own
      go_wp2_with (fail)
      refine bodyPost_ret (v := .agg #[.int .i64 t.kind, .slice A' t.args.length c']) (by simp [results, Tryz.results24, go_sem, r0, r1]) rfl ?_
      refine ⟨⟨_, rfl, ?_⟩, (hbr.setCell (p := ⟨w.heap.size + 1, 0, none⟩) (by show _ ≤ w.heap.size + 1; omega) _).setCell (p := ⟨w.heap.size + 1, 1, none⟩) (by show _ ≤ w.heap.size + 1; omega) _⟩
      have := ty_made_e (wF := (wr.setCell ⟨w.heap.size + 1, 0, none⟩ (.int .i64 t.kind)).setCell ⟨w.heap.size + 1, 1, none⟩ (.slice A' t.args.length c')) (lo := w.heap.size) (kd := t.kind) (acc := t.args) hO.own rfl (fun i a ha => hO.args i a (List.getElem?_eq_some_iff.1 ha).1 ha) (fun b hb => hb.1) (by omega) (fun b hb hl => by
       rw [Below.heap_setCell _ _ _ _ (by show b ≠ w.heap.size + 1; omega), Below.heap_setCell _ _ _ _ (by show b ≠ w.heap.size + 1; omega)])
      exact (show Ty.mk t.kind t.args = t by cases t; rfl) ▸ this
end Go.Proofs.YtaecndmncpfpfaaGreatDoor.L5
set_option linter.unusedVariables false
set_option linter.unusedSimpArgs false
namespace Go.Proofs.YtaecndmncpfpfaaGreatDoor.L5
open Go.RowKit
theorem info40 : (Tryz.prog.info? 41).map (fun i => (i.zero, i.size, i.bytes)) = some (some (.agg #[.string ⟨#[]⟩, .int .i64 0, .string ⟨#[]⟩, .int .i64 0, .slice none 0 0, .slice none 0 0]), 6, 96) := by kernel_rfl
structure OfnInv (w : World) (t : Nd) (pv rv : Array Value) (d j : Nat) (vs : Value) (cs : List Value) (wr : World) : Prop where
 below : Below w.heap.size w wr
 size : w.heap.size + 2 ≤ wr.heap.size
 box : wr.heap[w.heap.size]? = some (.cells pv 27 (0, 0))
 res : wr.heap[w.heap.size + 1]? = some (.cells rv 41 (0, 0))
 own : wr.ownsRow (w.heap.size + 2) 41 6 vs j cs
 args : ∀ (i : Nat) (a : Nd), i < j → t.kids[i]? = some a → ∃ u0 u1 u2 u3 u4 u5, cs[i * 6]? = some u0 ∧ cs[i * 6 + 1]? = some u1 ∧ cs[i * 6 + 2]? = some u2 ∧ cs[i * 6 + 3]? = some u3 ∧ cs[i * 6 + 4]? = some u4 ∧ cs[i * 6 + 5]? = some u5 ∧ NdAt wr (fun b => w.heap.size + 2 ≤ b ∧ some b ≠ vs.ownBlock) d (.agg #[u0, u1, u2, u3, u4, u5]) a
theorem OfnInv.next {w wr w3 w7 : World} {vs v' u0 u1 u2 u3 u4 u5 : Value} {t a : Nd} {pv rv : Array Value} {d j : Nat} {cs : List Value} {o1 o2 : Obj} (h : OfnInv w t pv rv d j vs cs wr) (hb : Below (wr.alloc o1).heap.size (wr.alloc o1) w3) (hT : NdAt w3 (fun b => (wr.alloc o1).heap.size ≤ b) d (.agg #[u0, u1, u2, u3, u4, u5]) a) (ha : t.kids[j]? = some a)
    (hg : (w3.alloc o2).grownBy w7 vs.ownBlock) (hown7 : w7.ownsRow (w.heap.size + 2) 41 6 v' (j + 1) (cs ++ [u0, u1, u2, u3, u4, u5])) (hat : v'.ownBlock = vs.ownBlock ∨ v'.ownBlock = some (w3.alloc o2).heap.size) :
    OfnInv w t pv rv d (j + 1) v' (cs ++ [u0, u1, u2, u3, u4, u5]) w7 := by
 have hs := h.size
 have hs3 := hb.size
 have e1 : (wr.alloc o1).heap.size = wr.heap.size + 1 := by simp
 have e3 : (w3.alloc o2).heap.size = w3.heap.size + 1 := by simp
 have hs7 := hg.size
 have hvs : ∀ b, vs.ownBlock = some b → w.heap.size + 2 ≤ b ∧ b < wr.heap.size := h.own.lt
 have step3 : ∀ b, b < w3.heap.size → some b ≠ vs.ownBlock → w7.heap[b]? = w3.heap[b]? := fun b hl hne => by
  rw [hg.block b (by omega) hne, Below.heap_alloc _ _ _ hl]
 have stepr : ∀ b, b < wr.heap.size → some b ≠ vs.ownBlock → w7.heap[b]? = wr.heap[b]? := fun b hl hne => by
  rw [step3 b (by omega) hne, hb.block b (by omega), Below.heap_alloc _ _ _ hl]
 have ne1 : ∀ b, b < w.heap.size + 2 → some b ≠ vs.ownBlock := fun b hl e => by have := (hvs b e.symm).1; omega
 have hbw : Below w.heap.size w w7 := ((h.below.alloc (by omega) o1).trans (hb.mono (by omega))).alloc (by omega) o2 |>.grown hg (by omega) (fun k hk => by have := (hvs k hk).1; omega)
 refine ⟨hbw, by omega, ?_, ?_, hown7, fun i b hi hib => ?_⟩
 · rw [stepr _ (by omega) (ne1 _ (by omega))]; exact h.box
 · rw [stepr _ (by omega) (ne1 _ (by omega))]; exact h.res
 · have hcl : cs.length = j * 6 := h.own.1
   rcases Nat.lt_or_ge i j with hlt | hge
   · obtain ⟨x0, x1, x2, x3, x4, x5, h0, h1, h2, h3, h4, h5, h6⟩ := h.args i b hlt hib
     refine ⟨x0, x1, x2, x3, x4, x5, by rw [List.getElem?_append_left (by omega)]; exact h0, by rw [List.getElem?_append_left (by omega)]; exact h1, by rw [List.getElem?_append_left (by omega)]; exact h2, by rw [List.getElem?_append_left (by omega)]; exact h3, by rw [List.getElem?_append_left (by omega)]; exact h4, by rw [List.getElem?_append_left (by omega)]; exact h5, h6.move fun k hk hl => ⟨⟨hk.1, fun e => ?_⟩, fun _ => World.cell?_of_block (stepr k hl hk.2)⟩⟩
     rcases hat with hh | hh
     · exact hk.2 (e.trans hh)
     · rw [hh, e3] at e; injection e; omega
   · obtain rfl : i = j := by omega
     rw [ha] at hib
     injection hib with hib
     subst hib
     have nev : ∀ k, wr.heap.size + 1 ≤ k → some k ≠ vs.ownBlock := fun k hk e => by have := (hvs k e.symm).2; omega
     refine ⟨u0, u1, u2, u3, u4, u5, by rw [List.getElem?_append_right (by omega)]; simp [show i * 6 - cs.length = 0 by omega], by rw [List.getElem?_append_right (by omega)]; simp [show i * 6 + 1 - cs.length = 1 by omega], by rw [List.getElem?_append_right (by omega)]; simp [show i * 6 + 2 - cs.length = 2 by omega], by rw [List.getElem?_append_right (by omega)]; simp [show i * 6 + 3 - cs.length = 3 by omega], by rw [List.getElem?_append_right (by omega)]; simp [show i * 6 + 4 - cs.length = 4 by omega], by rw [List.getElem?_append_right (by omega)]; simp [show i * 6 + 5 - cs.length = 5 by omega], hT.move fun k hk hl => ⟨⟨by omega, fun e => ?_⟩, fun _ => World.cell?_of_block (step3 k hl (nev k (by omega)))⟩⟩
     rcases hat with hh | hh
     · rw [hh] at e; exact nev k (by omega) e
     · rw [hh, e3] at e; injection e; omega
theorem nd_made {w wr wF : World} {t : Nd} {pv rv : Array Value} {d : Nat} {A A' : Option Addr} {c c' : Nat} {cs : List Value} (h : OfnInv w t pv rv d t.kids.length (.slice A' t.kids.length c') cs wr) (hk : ∀ b, w.heap.size + 2 ≤ b → b < wr.heap.size → wF.heap[b]? = wr.heap[b]?)
    (hT : ∃ dt, TyAt wF (fun b => w.heap.size ≤ b) dt (.agg #[.int .i64 t.ty.kind, .slice A t.ty.args.length c]) t.ty) : NdAt wF (fun b => w.heap.size ≤ b) (d + 1) (.agg #[.string ⟨t.op.toArray⟩, .int .i64 t.int, .string ⟨t.text.toArray⟩, .int .i64 t.ty.kind, .slice A t.ty.args.length c, .slice A' t.kids.length c']) t := by
 have hkc : ∀ b, w.heap.size + 2 ≤ b → b < wr.heap.size → ∀ o, wF.cell? ⟨b, o, none⟩ = wr.cell? ⟨b, o, none⟩ := fun b hb hl o => World.cell?_of_block (hk b hb hl)
 have hown := h.own
 rcases hown.2 with ⟨he, h0⟩ | ⟨g, cap, cur, he, hbg, hg, hnc, _⟩
 · injection he with e1 e2 e3
   subst e1; subst e3
   exact ⟨A, c, none, 0, rfl, hT, by omega, fun hl => absurd hl (by omega)⟩
 · injection he with e1 e2 e3
   subst e1; subst e3
   have hgl := zC hg
   refine ⟨A, c, _, c', rfl, hT, by omega, fun hl => ⟨g, 0, rfl, by omega, fun j a ha => ?_⟩⟩
   have hjl := (List.getElem?_eq_some_iff.1 ha).1
   obtain ⟨u0, u1, u2, u3, u4, u5, h0, h1, h2, h3, h4, h5, h6⟩ := h.args j a hjl ha
   refine ⟨u0, u1, u2, u3, u4, u5, ?_, ?_, ?_, ?_, ?_, ?_, NdAt.move (fun b hSb hbl => ⟨by have := hSb.1; show w.heap.size ≤ b; omega, hkc b hSb.1 hbl⟩) _ _ _ h6⟩
   · rw [Nat.zero_add, hkc g hbg hgl, hown.cellAt _ (by omega)]; exact h0
   · rw [Nat.zero_add, hkc g hbg hgl, hown.cellAt _ (by omega)]; exact h1
   · rw [Nat.zero_add, hkc g hbg hgl, hown.cellAt _ (by omega)]; exact h2
   · rw [Nat.zero_add, hkc g hbg hgl, hown.cellAt _ (by omega)]; exact h3
   · rw [Nat.zero_add, hkc g hbg hgl, hown.cellAt _ (by omega)]; exact h4
   · rw [Nat.zero_add, hkc g hbg hgl, hown.cellAt _ (by omega)]; exact h5
set_option maxRecDepth 100000 in
set_option maxHeartbeats 2000000 in
theorem of_any : ∀ (d n : Nat) (S : Nat → Prop) (v : Value) (t : Nd) (w : World), NarN n t → NdAt w S d v t →
    Calls Tryz.prog 12 #[v] w fun e w' => (∃ v', e = .returned v' ∧ NdAt w' (fun b => w.heap.size ≤ b) d v' t) ∧ Below w.heap.size w w'
 | 0, n, S, v, t, w, _, hT => hT.elim
 | d + 1, 0, S, v, t, w, hN, _ => hN.elim
 | d + 1, n + 1, S, v, t, w, hN, hT => by
   obtain ⟨i0, hi, hq0, hq1, hq2⟩ := info_parts info40
   obtain ⟨hnar, hlen, hall⟩ := hN
   have IH := of_any d n
   have HIH := Lib.hid IH
   have HALL := Lib.hid hall
   have HNAR := Lib.hid hnar
   obtain ⟨A, c, K, kc, rfl, ⟨dt, hty⟩, hlc, hA⟩ := hT
   have HA := Lib.hid hA
   have HTY := Lib.hid hty
   clear hA IH hall hnar hty
   go_enter Tryz.func12, Tryz.ntmps12
   go_wp2_with (fail)
   go_loopw [3, 9] (fun vs i wr => ∃ (j : Nat) (cs : List Value), i = .int .i64 j ∧ j ≤ t.kids.length ∧ OfnInv w t #[.string ⟨t.op.toArray⟩, .int .i64 t.int, .string ⟨t.text.toArray⟩, .int .i64 t.ty.kind, .slice A t.ty.args.length c, .slice K t.kids.length kc] #[.string ⟨#[]⟩, .int .i64 0, .string ⟨#[]⟩, .int .i64 0, .slice none 0 0, .slice none 0 0] d j vs cs wr) (fun _ i _ => 6000 - (intOf i).toNat)
   case atStart =>
    refine ⟨0, [], rfl, by omega, ((Below.refl _ _).alloc (Nat.le_refl _) _).alloc (by simp) _, by simp, ?_, ?_, World.ownsRow_nil _ _ _ _, fun i a hi => by omega⟩
    · rw [Below.heap_alloc _ _ _ (by simp)]; exact heap_alloc_new w _
    · exact (by simpa using heap_alloc_new (w.alloc _) _)
   case round =>
    obtain ⟨j, cs, rfl, hj, hI⟩ := hrel
    obtain ⟨vs, rfl⟩ : ∃ vs : Value, vs = u3 := ⟨_, rfl⟩
    have HI := Lib.hid hI
    have hbr := hI.below
    have hsz := hI.size
    have hb0 := hI.box
    have hb1 := hI.res
    clear hI
    by_cases hlt : j < t.kids.length
    · obtain ⟨b, o, rfl, hSb, hcells⟩ := HA.out (by omega)
      obtain ⟨a, ha⟩ : ∃ a, t.kids[j]? = some a := ⟨_, List.getElem?_eq_getElem hlt⟩
      obtain ⟨A', c', K', k', h0, h1, h2, h3, h4, h5, h6, hbl⟩ := kid_cells hcells ha
      have g0 := (hbr.cell (p := ⟨b, o + j * 6, none⟩) hbl).trans h0
      have g1 := (hbr.cell (p := ⟨b, o + j * 6 + 1, none⟩) hbl).trans h1
      have g2 := (hbr.cell (p := ⟨b, o + j * 6 + 2, none⟩) hbl).trans h2
      have g3 := (hbr.cell (p := ⟨b, o + j * 6 + 3, none⟩) hbl).trans h3
      have g4 := (hbr.cell (p := ⟨b, o + j * 6 + 4, none⟩) hbl).trans h4
      have g5 := (hbr.cell (p := ⟨b, o + j * 6 + 5, none⟩) hbl).trans h5
      have HAT := Lib.hid ha
      have H2 := Lib.hid ((h6.below hbr).below ((Below.refl wr.heap.size wr).alloc (Nat.le_refl _) (.cells #[.string ⟨a.op.toArray⟩, .int .i64 a.int, .string ⟨a.text.toArray⟩, .int .i64 a.ty.kind, .slice A' a.ty.args.length c', .slice K' a.kids.length k'] 27)))
      have HNA := Lib.hid (HALL.out a (List.mem_of_getElem? ha))
      clear h0 h1 h2 h3 h4 h5 h6 ha hcells hb0 hb1
      go_wp2_with (fail)
      refine (HIH.out S _ a _ HNA.out H2.out).mono ?_
      rintro e w3 ⟨⟨v3, rfl, hT3⟩, hb3⟩
      obtain ⟨A3, c3, K3, k3, rfl⟩ := hT3.form
      have HT3 := Lib.hid hT3
      have hs3 := hb3.size
      have hown3 := HI.out.own.kept (row := none) ⟨hb3.os, hb3.tape, hb3.output, by have := hb3.size; simp at this; omega, fun k hk _ => (hb3.block k (by simp; omega)).trans (Below.heap_alloc wr _ k hk)⟩ (by cases hv : vs.ownBlock <;> simp)
      clear hT3 g0 g1 g2 g3 g4 g5
      simp only [World.size_alloc] at hs3
      go_wp2_with (at_builtin; refine wpList_append_own_at _ rfl _ _ 39 rfl (w.heap.size + 2) 41 i0 (.agg #[.string ⟨#[]⟩, .int .i64 0, .string ⟨#[]⟩, .int .i64 0, .slice none 0 0, .slice none 0 0]) 6 96 Tryz.underlying39 hi hq0 hq1 hq2 rfl (by decide) vs j cs rfl (hown3.alloc _) ⟨w3.heap.size, 0, none⟩ 1 1 [.string ⟨a.op.toArray⟩, .int .i64 a.int, .string ⟨a.text.toArray⟩, .int .i64 a.ty.kind, .slice A3 a.ty.args.length c3, .slice K3 a.kids.length k3] rfl rfl (cell_six_new _ _ _ _ _ _ _ _ _ rfl) (six_one _ _ _ _ _ _ _ _ _ _) (by unfold maxLen; omega) (by omega) (by simp; omega) ?_; intro v' w7 hown7 hgrow7 _ hat7)
      go_roundw
      case rel => exact ⟨j + 1, _, by go_num, by omega, OfnInv.next HI.out hb3 HT3.out HAT.out hgrow7 hown7 hat7⟩
      case measure => simp [intOf]; omega
    · obtain rfl : j = t.kids.length := by omega
      have hO := HI.out
      obtain ⟨A', c', rfl⟩ := own_slice hO.own
      have b0 := zN hb0
      have b1 := zR hb0
      have b2 := zQ hb0
      have b3 := zP hb0
      have b4 := zO hb0
      have hbx := zC hb0
      have HB0 := Lib.hid hb0
      have HR0 := Lib.hid hb1
      have HBR := Lib.hid hbr
      have hRR : Below wr.heap.size wr wr := Below.refl _ _
      have HT0 := Lib.hid (HTY.out.below hbr)
      clear hO hb0 hb1
      go_wp2_with (fail)
      go_region_held3 (fun w' => w'.cell? ⟨w.heap.size, 0, none⟩ = some (.string ⟨t.op.toArray⟩) ∧ w'.cell? ⟨w.heap.size, 1, none⟩ = some (.int .i64 t.int) ∧ w'.cell? ⟨w.heap.size, 2, none⟩ = some (.string ⟨t.text.toArray⟩) ∧ w'.cell? ⟨w.heap.size, 3, none⟩ = some (.int .i64 t.ty.kind) ∧ w'.cell? ⟨w.heap.size, 4, none⟩ = some (.slice A t.ty.args.length c) ∧ Below w.heap.size w w')
       ((refine ⟨?_, ?_, ?_, ?_, ?_, ?_⟩ <;> (repeat' (first | with_reducible assumption | with_reducible refine zX ?_ | with_reducible refine cell_set_some ?_ ?_ | with_reducible refine Below.drew ?_ | with_reducible refine Below.set_own ?_ ?_ | (dsimp only; omega)))))
       (first
         | (go_at_call 24; refine (typ_any dt 30 _ _ t.ty wr.drew HNAR.out (HT0.out.below (Below.refl _ _).drew)).mono ?_; rintro e w3 ⟨⟨v3, rfl, hT3⟩, hb3⟩; obtain ⟨A3, c3, rfl⟩ := hT3.form; have HT3 := Lib.hid hT3; have HB3 : Below wr.heap.size wr w3 := (Below.refl _ wr).drew.trans hb3; have KB3 : Below w.heap.size w w3 := hbr.trans (HB3.mono hbr.size); clear hT3; have x0 := (HB3.cell (p := ⟨w.heap.size, 0, none⟩) hbx).trans b0; have x1 := (HB3.cell (p := ⟨w.heap.size, 1, none⟩) hbx).trans b1; have x2 := (HB3.cell (p := ⟨w.heap.size, 2, none⟩) hbx).trans b2; have x3 := (HB3.cell (p := ⟨w.heap.size, 3, none⟩) hbx).trans b3; have x4 := (HB3.cell (p := ⟨w.heap.size, 4, none⟩) hbx).trans b4; have y := (HB3.block (w.heap.size + 1) (by omega)).trans HR0.out; have y0 := zN y; have y1 := zR y; have y2 := zQ y; have y3 := zP y; have y4 := zO y; have y5 := zL y; have z0 := zB y 0; have z1 := zB y 1; have z2 := zB y 2; have z3 := zB y 3; have z4 := zB y 4; have z5 := zB y 5))
      go_wp2_with (fail)
      have hs3 := HB3.size
      have hp := put6_heap (b0 := .string ⟨t.op.toArray⟩) (b1 := .int .i64 t.int) (b2 := .string ⟨t.text.toArray⟩) (b3 := .int .i64 t.ty.kind) (b4 := .slice A3 t.ty.args.length c3) (b5 := .slice A' t.kids.length c') y
      have hk6 : ∀ b, b ≠ w.heap.size + 1 → ((((((w3.setCell ⟨w.heap.size + 1, 0, none⟩ (.string ⟨t.op.toArray⟩)).setCell ⟨w.heap.size + 1, 1, none⟩ (.int .i64 t.int)).setCell ⟨w.heap.size + 1, 2, none⟩ (.string ⟨t.text.toArray⟩)).setCell ⟨w.heap.size + 1, 3, none⟩ (.int .i64 t.ty.kind)).setCell ⟨w.heap.size + 1, 4, none⟩ (.slice A3 t.ty.args.length c3)).setCell ⟨w.heap.size + 1, 5, none⟩ (.slice A' t.kids.length c')).heap[b]? = w3.heap[b]? := fun b hb => set6_block hb
      have HBF : Below w.heap.size w ((((((w3.setCell ⟨w.heap.size + 1, 0, none⟩ (.string ⟨t.op.toArray⟩)).setCell ⟨w.heap.size + 1, 1, none⟩ (.int .i64 t.int)).setCell ⟨w.heap.size + 1, 2, none⟩ (.string ⟨t.text.toArray⟩)).setCell ⟨w.heap.size + 1, 3, none⟩ (.int .i64 t.ty.kind)).setCell ⟨w.heap.size + 1, 4, none⟩ (.slice A3 t.ty.args.length c3)).setCell ⟨w.heap.size + 1, 5, none⟩ (.slice A' t.kids.length c')) := by
       repeat' (first | with_reducible assumption | with_reducible refine Below.set_own ?_ ?_ | (dsimp only; omega))
      generalize (((((w3.setCell ⟨w.heap.size + 1, 0, none⟩ (.string ⟨t.op.toArray⟩)).setCell ⟨w.heap.size + 1, 1, none⟩ (.int .i64 t.int)).setCell ⟨w.heap.size + 1, 2, none⟩ (.string ⟨t.text.toArray⟩)).setCell ⟨w.heap.size + 1, 3, none⟩ (.int .i64 t.ty.kind)).setCell ⟨w.heap.size + 1, 4, none⟩ (.slice A3 t.ty.args.length c3)).setCell ⟨w.heap.size + 1, 5, none⟩ (.slice A' t.kids.length c') = wF at *
      have p0 := zN hp
      have p1 := zR hp
      have p2 := zQ hp
      have p3 := zP hp
      have p4 := zO hp
      have p5 := zL hp
      refine bodyPost_ret (v := .agg #[.string ⟨t.op.toArray⟩, .int .i64 t.int, .string ⟨t.text.toArray⟩, .int .i64 t.ty.kind, .slice A3 t.ty.args.length c3, .slice A' t.kids.length c']) (by simp [results, Tryz.results12, go_sem, p0, p1, p2, p3, p4, p5]) rfl ?_
      refine ⟨⟨_, rfl, nd_made HI.out (fun b hb hl => (hk6 b (by omega)).trans (HB3.block b hl)) ⟨dt, HT3.out.move fun b hb _ => ⟨by have hbb : wr.heap.size ≤ b := hb; show w.heap.size ≤ b; omega, fun _ => World.cell?_of_block (hk6 b (by have hbb : wr.heap.size ≤ b := hb; omega))⟩⟩⟩, HBF⟩
