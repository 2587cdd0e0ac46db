import Derived.Test.YtaecndmncpfpfaaGreatDoorCb
import Derived.Deep.RegionWith
import Derived.Deep.AppendLies
import Derived.Deep.RegionHeld3
namespace Go.Proofs.YtaecndmncpfpfaaGreatDoor
open Go.RowKit
def fillT : Nat → Ty × Ty → Ty → Ty
 | 0, _, t => t
 | r + 1, c, t => if t.kind = -1 then c.1 else if t.kind = -2 then c.2 else .mk t.kind (t.args.map (fillT r c))
structure FlI (w1 : World) (P : Nat → Prop) (G : Nat) (kd : Int) (F : Ty → Ty) (t : Ty) (d j : Nat) (A : Option Addr) (c : Nat) (cs : List Value) (wr : World) : Prop where
 below : Below G w1 wr
 base : w1.heap.size = G
 low : ∀ k, P k → k < G
 box : wr.heap[G]? = some (.cells #[.int .i64 kd, .slice A j c] 34 (0, 0))
 own : wr.ownsRow (G + 1) 34 2 (.slice A j c) j cs
 args : ∀ (i : Nat) (a : Ty), i < j → t.args[i]? = some a → ∃ u0 u1, cs[i * 2]? = some u0 ∧ cs[i * 2 + 1]? = some u1 ∧ TyAt wr (fun b => (P b ∨ G < b) ∧ some b ≠ (Value.slice A j c).ownBlock) d (.agg #[u0, u1]) (F a)
theorem FlI.next {w1 wr w3 w7 : World} {P : Nat → Prop} {G g cap : Nat} {kd : Int} {F : Ty → Ty} {t a : Ty} {d j c : Nat} {A : Option Addr} {u0 u1 : Value} {cs : List Value} {o1 o2 : Obj} (h : FlI w1 P G kd F t d j A c cs wr)
    (hb : Below (wr.alloc o1).heap.size (wr.alloc o1) w3) (hT : TyAt w3 (fun b => P b ∨ (wr.alloc o1).heap.size ≤ b) d (.agg #[u0, u1]) (F a)) (ha : t.args[j]? = some a)
    (hg : (w3.alloc o2).grownBy w7 (Value.slice A j c).ownBlock) (hown7 : w7.ownsRow (G + 1) 34 2 (.slice (some ⟨g, 0, none⟩) (j + 1) cap) (j + 1) (cs ++ [u0, u1])) (hat : (Value.slice A j c).ownBlock = some g ∨ g = (w3.alloc o2).heap.size) :
    FlI w1 P G kd F t d (j + 1) (some ⟨g, 0, none⟩) cap (cs ++ [u0, u1]) (w7.setCell ⟨G, 1, none⟩ (.slice (some ⟨g, 0, none⟩) (j + 1) cap)) := by
 have hlow := h.low
 have hGr := zC h.box
 have hs3 := hb.size
 have e1 : (wr.alloc o1).heap.size = wr.heap.size + 1 := by simp
 have e3 : (w3.alloc o2).heap.size = w3.heap.size + 1 := by simp
 have hs7 := hg.size
 have hgG : G + 1 ≤ g := (hown7.lt g rfl).1
 have hvs : ∀ b, (Value.slice A j c).ownBlock = some b → G + 1 ≤ b ∧ b < wr.heap.size := h.own.lt
 have setG : ∀ b, b ≠ G → (w7.setCell ⟨G, 1, none⟩ (.slice (some ⟨g, 0, none⟩) (j + 1) cap)).heap[b]? = w7.heap[b]? := fun b hb => Below.heap_setCell _ _ _ _ (by show b ≠ G; exact hb)
 have step3 : ∀ b, b < w3.heap.size → some b ≠ (Value.slice A j c).ownBlock → w7.heap[b]? = w3.heap[b]? := fun b hl hne => by
  rw [hg.block b (by omega) hne, Below.heap_alloc _ _ _ hl]
 have stepr : ∀ b, b < wr.heap.size → some b ≠ (Value.slice A j c).ownBlock → w7.heap[b]? = wr.heap[b]? := fun b hl hne => by
  rw [step3 b (by omega) hne, hb.block b (by omega), Below.heap_alloc _ _ _ hl]
 have ne1 : ∀ b, b ≤ G → some b ≠ (Value.slice A j c).ownBlock := fun b hl e => by have := (hvs b e.symm).1; omega
 have hkp := hown7.kept (row := some G) (Only.set_ G 1 _ (.slice (some ⟨g, 0, none⟩) (j + 1) cap)) (.inr (fun e => by have e2 : g = G := (by simpa [Value.ownBlock] using e); omega))
 refine ⟨?_, h.base, hlow, ?_, hkp, fun i b hi hib => ?_⟩
 · have hbr : Below G w1 w3 := (h.below.alloc (by omega) o1).trans (hb.mono (by omega))
   have hb7 : Below G w1 w7 := (hbr.alloc (by omega) o2).grown hg (by omega) (fun k hk => by have := (hvs k hk).1; omega)
   exact hb7.setCell (p := ⟨G, 1, none⟩) (Nat.le_refl _) _
 · have h7 : w7.heap[G]? = some (.cells #[.int .i64 kd, .slice A j c] 34 (0, 0)) := by rw [stepr G hGr (ne1 G (Nat.le_refl _))]; exact h.box
   simp [World.setCell, Array.getElem?_modify, h7]
 · have hcl : cs.length = j * 2 := h.own.1
   rcases Nat.lt_or_ge i j with hlt | hge
   · obtain ⟨x0, x1, h0, h1, h2⟩ := h.args i b hlt hib
     refine ⟨x0, x1, by rw [List.getElem?_append_left (by omega)]; exact h0, by rw [List.getElem?_append_left (by omega)]; exact h1, h2.move fun k hk hl => ⟨⟨hk.1, fun e => ?_⟩, fun _ => World.cell?_of_block ((setG k (hk.1.elim (fun h => Nat.ne_of_lt (hlow k h)) (fun h => by omega))).trans (stepr k hl hk.2))⟩⟩
     have e' : k = g := by injection e
     rcases hat with hh | hh
     · exact hk.2 (by rw [hh, e'])
     · omega
   · obtain rfl : i = j := by omega
     rw [ha] at hib
     injection hib with hib
     subst hib
     have nev : ∀ k, wr.heap.size + 1 ≤ k → some k ≠ (Value.slice A i c).ownBlock := fun k hk e => by have := (hvs k e.symm).2; omega
     have nev2 : ∀ k, (P k ∨ (wr.alloc o1).heap.size ≤ k) → some k ≠ (Value.slice A i c).ownBlock := fun k hk => by
      rcases hk with h | h
      · exact ne1 k (Nat.le_of_lt (hlow k h))
      · exact nev k (by omega)
     refine ⟨u0, u1, by rw [List.getElem?_append_right (by omega)]; simp [show i * 2 - cs.length = 0 by omega], by rw [List.getElem?_append_right (by omega)]; simp [show i * 2 + 1 - cs.length = 1 by omega], hT.move fun k hk hl => ⟨⟨hk.elim .inl (fun h => .inr (by omega)), fun e => ?_⟩, fun _ => World.cell?_of_block ((setG k (hk.elim (fun h => Nat.ne_of_lt (hlow k h)) (fun h => by omega))).trans (step3 k hl (nev2 k hk)))⟩⟩
     have e' : k = g := by injection e
     rcases hat with hh | hh
     · exact nev2 k hk (by rw [hh, e'])
     · omega
theorem fl_end {w w1 wr : World} {P : Nat → Prop} {G cp d r : Nat} {kd : Int} {F : Ty → Ty} {t : Ty} {AA : Option Addr} {cs : List Value} {x y : Value} (h : FlI w1 P G kd F t (d + r) t.args.length AA cp cs wr) (hw : w.heap.size + 1 < G) (hC : ∀ k, P k → k < w.heap.size) :
    TyAt ((wr.setCell ⟨w.heap.size + 1, 0, none⟩ x).setCell ⟨w.heap.size + 1, 1, none⟩ y) (fun b => P b ∨ w.heap.size ≤ b) (d + (r + 1)) (.agg #[.int .i64 kd, .slice AA t.args.length cp]) (.mk kd (t.args.map F)) := by
 have far : ∀ b, b ≠ w.heap.size + 1 → ((wr.setCell ⟨w.heap.size + 1, 0, none⟩ x).setCell ⟨w.heap.size + 1, 1, none⟩ y).heap[b]? = wr.heap[b]? := fun b hb => by
  rw [Below.heap_setCell _ _ _ _ (by show b ≠ w.heap.size + 1; exact hb), Below.heap_setCell _ _ _ _ (by show b ≠ w.heap.size + 1; exact hb)]
 have hlen : (t.args.map F).length = t.args.length := List.length_map ..
 rw [show d + (r + 1) = (d + r) + 1 by omega]
 rcases h.own.2 with ⟨e, h0⟩ | ⟨g, cap, cur, e, hbg, hg, hnc, _⟩
 · injection e with e1 e2 e3
   exact ⟨AA, cp, by show _ = Value.agg #[.int .i64 kd, .slice AA (t.args.map F).length cp]; rw [hlen], by show (t.args.map F).length ≤ cp; omega, fun hl => absurd hl (by show ¬ 0 < (t.args.map F).length; omega)⟩
 · injection e with e1 e2 e3
   refine ⟨AA, cp, by show _ = Value.agg #[.int .i64 kd, .slice AA (t.args.map F).length cp]; rw [hlen], by show (t.args.map F).length ≤ cp; omega, fun hl => ⟨g, 0, e1, .inr (by omega), fun j a ha => ?_⟩⟩
   have ha' : (t.args.map F)[j]? = some a := ha
   rw [List.getElem?_map] at ha'
   obtain ⟨b, hb, rfl⟩ := Option.map_eq_some_iff.1 ha'
   have hjl := (List.getElem?_eq_some_iff.1 hb).1
   obtain ⟨u0, u1, g0, g1, g2⟩ := h.args j b hjl hb
   have hown := h.own
   rw [e1] at hown
   refine ⟨u0, u1, ?_, ?_, g2.move fun k hk _ => ⟨hk.1.elim .inl (fun h => .inr (by omega)), fun _ => World.cell?_of_block (far k (hk.1.elim (fun h => by have := hC k h; omega) (fun h => by omega)))⟩⟩
   · rw [Nat.zero_add, World.cell?_of_block (far g (by omega)), hown.cellAt _ (by omega)]; exact g0
   · rw [Nat.zero_add, World.cell?_of_block (far g (by omega)), hown.cellAt _ (by omega)]; exact g1
theorem cell_alloc2 {w : World} {b i : Nat} {v : Value} {o : Obj} (hb : b < w.heap.size) (h : w.cell? ⟨b, i, none⟩ = some v) : (w.alloc o).cell? ⟨b, i, none⟩ = some v := (World.cell?_of_block (Below.heap_alloc w o b hb)).trans h
set_option maxRecDepth 100000 in
set_option maxHeartbeats 4000000 in
theorem filled_any : ∀ (P : Nat → Prop) (r dw d C : Nat) (wv : Value) (t : Ty) (c : Ty × Ty) (w : World), Dp r t → TyAt w P dw wv t → ChAt w C P d c →
    Calls Tryz.prog 99 #[.pointer (some ⟨C, 0, none⟩), wv] w fun e w' => (∃ v', e = .returned v' ∧ TyAt w' (fun b => P b ∨ w.heap.size ≤ b) (d + r) v' (fillT r c t)) ∧ Below w.heap.size w w'
 | _, 0, _, _, _, _, _, _, _, hD, _, _ => hD.elim
 | _, _ + 1, 0, _, _, _, _, _, _, _, h, _ => h.elim
 | P, r + 1, dw + 1, d, C, wv, t, c, w, ⟨hlen, hall⟩, hW0, hCh => by
   obtain ⟨i0, hi, hq0, hq1, hq2⟩ := info_parts Knd.info24
   have IH := filled_any P r dw d C
   have HIH := Lib.hid IH
   have HALL := Lib.hid hall
   have hCl := hCh.lt
   have HBD := Lib.hid hCh.bound
   have HCH := Lib.hid hCh
   have HW := Lib.hid hW0
   obtain ⟨A, k, rfl, hlk, hA⟩ := hW0
   have HA := Lib.hid hA
   have hb2 := ((Below.refl w.heap.size w).alloc (Nat.le_refl _) (.cells #[.int .i64 t.kind, .slice A t.args.length k] 34)).alloc (by simp) (.cells #[.int .i64 0, .slice none 0 0] 34)
   have hx0 := (Below.heap_alloc (w.alloc (.cells #[.int .i64 t.kind, .slice A t.args.length k] 34)) (.cells #[.int .i64 0, .slice none 0 0] 34) w.heap.size (by simp)).trans (heap_alloc_new w _)
   have hx1 : ((w.alloc (.cells #[.int .i64 t.kind, .slice A t.args.length k] 34)).alloc (.cells #[.int .i64 0, .slice none 0 0] 34)).heap[w.heap.size + 1]? = some (.cells #[.int .i64 0, .slice none 0 0] 34 (0, 0)) := by simpa using heap_alloc_new (w.alloc (.cells #[.int .i64 t.kind, .slice A t.args.length k] 34)) (.cells #[.int .i64 0, .slice none 0 0] 34)
   have hs2 : ((w.alloc (.cells #[.int .i64 t.kind, .slice A t.args.length k] 34)).alloc (.cells #[.int .i64 0, .slice none 0 0] 34)).heap.size = w.heap.size + 2 := by simp
   have HB2 := Lib.hid hb2
   have HX0 := Lib.hid hx0
   have HX1 := Lib.hid hx1
   clear hCh IH hall hb2 hx0 hx1 hA
   go_enter Tryz.func99, Tryz.ntmps99
   go_wp2_with (fail)
   generalize (w.alloc (.cells #[.int .i64 t.kind, .slice A t.args.length k] 34)).alloc (.cells #[.int .i64 0, .slice none 0 0] 34) = w0 at *
   refine (standing_any C t.kind A t.args.length k w0).mono ?_
   rintro e w1 ⟨rfl, hb1⟩
   have HB1 := Lib.hid (HB2.out.trans (hb1.mono (by omega)))
   have hy0 := below_at hb1 HX0.out
   have hy1 := below_at hb1 HX1.out
   have x0 := zG hy0
   have x1 := zF hy0
   have y0 := zG hy1
   have y1 := zF hy1
   have yf0 := zB hy1 0
   have yf1 := zB hy1 1
   have hl1 := zC hy1
   have hl0 : w.heap.size < w1.heap.size := by omega
   have HC1 := Lib.hid (HCH.out.below HB1.out)
   have HY1 := Lib.hid hy1
   clear hb1 hy0 hy1 HX0 HX1 HB2 HCH HW
   obtain ⟨CA, ck, CA', ck', hbx, ha, hb⟩ := HC1.out.box
   have HTA := Lib.hid ha
   have HTB := Lib.hid hb
   obtain ⟨z0, z1, z2, z3⟩ := cell4 hbx
   have hCl1 := zC hbx
   clear hbx ha hb
   by_cases h1 : t.kind = -1
   · have hst : stV C t.kind = .pointer (some ⟨C, 0, none⟩) := by unfold stV; rw [if_pos h1]
     rw [hst]
     have HF2 : Hid (fillT (r + 1) c t = c.1) := by show _ = _; rw [fillT, if_pos h1]
     clear h1 hst
     go_wp2_with (fail)
     refine bodyPost_ret (v := .agg #[.int .i64 c.1.kind, .slice CA c.1.args.length ck]) (by simp [results, Tryz.results99, go_sem, y0, y1]) rfl ?_
     refine ⟨⟨_, rfl, ?_⟩, (HB1.out.setCell (p := ⟨w.heap.size + 1, 0, none⟩) (Nat.le_succ _) _).setCell (p := ⟨w.heap.size + 1, 1, none⟩) (Nat.le_succ _) _⟩
     rw [HF2.out]
     exact (ty_more d (d + (r + 1)) (by omega) HTA.out).move fun b hb _ => ⟨.inl hb, fun _ => World.cell?_of_block (set_low (C := w.heap.size + 1) (k := b) (by have hb' : b < C := HBD.out b hb; omega))⟩
   · by_cases h2 : t.kind = -2
     · have hst : stV C t.kind = .pointer (some ⟨C, 2, none⟩) := by unfold stV; rw [if_neg h1, if_pos h2]
       rw [hst]
       have HF2 : Hid (fillT (r + 1) c t = c.2) := by show _ = _; rw [fillT, if_neg h1, if_pos h2]
       clear h1 h2 hst
       go_wp2_with (fail)
       refine bodyPost_ret (v := .agg #[.int .i64 c.2.kind, .slice CA' c.2.args.length ck']) (by simp [results, Tryz.results99, go_sem, y0, y1]) rfl ?_
       refine ⟨⟨_, rfl, ?_⟩, (HB1.out.setCell (p := ⟨w.heap.size + 1, 0, none⟩) (Nat.le_succ _) _).setCell (p := ⟨w.heap.size + 1, 1, none⟩) (Nat.le_succ _) _⟩
       rw [HF2.out]
       exact (ty_more d (d + (r + 1)) (by omega) HTB.out).move fun b hb _ => ⟨.inl hb, fun _ => World.cell?_of_block (set_low (C := w.heap.size + 1) (k := b) (by have hb' : b < C := HBD.out b hb; omega))⟩
     · have hst : stV C t.kind = .pointer none := by unfold stV; rw [if_neg h1, if_neg h2]
       rw [hst]
       have HF2 : Hid (fillT (r + 1) c t = .mk t.kind (t.args.map (fillT r c))) := by show _ = _; rw [fillT, if_neg h1, if_neg h2]
       clear h1 h2 hst z0 z1 z2 z3
       go_wp2_with (fail)
       go_loopw [23] (fun iv wr => ∃ (j cp : Nat) (AA : Option Addr) (cs : List Value), iv = .int .i64 (j : Int) ∧ j ≤ t.args.length ∧ Hid (FlI w1 P w1.heap.size t.kind (fillT r c) t (d + r) j AA cp cs wr)) (fun iv _ => 100 - (intOf iv).toNat)
       case atStart =>
        exact ⟨0, 0, none, [], rfl, Nat.zero_le _, ⟨(Below.refl _ w1).alloc (Nat.le_refl _) _, rfl, fun k hk => by have := HBD.out k hk; omega, heap_alloc_new w1 _, World.ownsRow_nil _ _ _ _, fun i a hi => by omega⟩⟩
       case round =>
        obtain ⟨j, cp, AA, cs, rfl, hj, HI⟩ := hrel
        have hbr := HI.out.below
        have hGr := zC HI.out.box
        have t0 := zG HI.out.box
        have t1 := zF HI.out.box
        have tf1 := zB HI.out.box 1
        by_cases hlt : j < t.args.length
        · have hjl : ((j : Int) < (t.args.length : Int)) := by omega
          obtain ⟨b, o, rfl, hSb, hcells⟩ := HA.out (by omega)
          have hbC : b < C := HBD.out b hSb
          obtain ⟨B1, k1, h0, h1, h2, hbl⟩ := arg_cells hcells hlt
          have low : ∀ k, k < C → wr.heap[k]? = w.heap[k]? := fun k hk => (hbr.block k (by omega)).trans (HB1.out.block k (by omega))
          have g0 : wr.cell? ⟨b, o + j * 2, none⟩ = some _ := (World.cell?_of_block (low b hbC)).trans h0
          have g1 : wr.cell? ⟨b, o + j * 2 + 1, none⟩ = some _ := (World.cell?_of_block (low b hbC)).trans h1
          have hat : t.args[j]? = some t.args[j] := List.getElem?_eq_getElem hlt
          have hdp := HALL.out _ (List.getElem_mem hlt)
          generalize t.args[j] = a at *
          have HAT := Lib.hid hat
          have hba := (Below.refl wr.heap.size wr).alloc (Nat.le_refl _) (.cells #[.int .i64 a.kind, .slice B1 a.args.length k1] 34)
          have HCL := Lib.hid (HIH.out (.agg #[.int .i64 a.kind, .slice B1 a.args.length k1]) a c ((wr.alloc (.cells #[.int .i64 a.kind, .slice B1 a.args.length k1] 34)).drew) hdp ((h2.set fun k hk => low k (HBD.out k hk)).set fun k hk => hba.block k (by have := HBD.out k hk; omega)) (((HC1.out.below hbr).below hba).below (Below.refl _ _).drew))
          have hcl : cs.length = j * 2 := HI.out.own.1
          have hbw : b < wr.heap.size := by omega
          clear h0 h1 h2 hat hdp hcells low
          have HOW := Lib.hid HI.out.own
          have HRR := Lib.hid HI.out.box
          have hjc : cs.length = j * 2 := hcl
          have HBA := Lib.hid hba
          have hs1w : (wr.alloc (.cells #[.int .i64 a.kind, .slice B1 a.args.length k1] 34)).heap.size = wr.heap.size + 1 := by simp
          have HCA := Lib.hid (heap_alloc_new wr (.cells #[.int .i64 a.kind, .slice B1 a.args.length k1] 34))
          clear hba hcl
          go_upto_region 8 with (fail)
          have c80 := zG HCA.out
          have c81 := zF HCA.out
          have hl8 := zC HCA.out
          have tG1 : (wr.alloc (.cells #[.int .i64 a.kind, .slice B1 a.args.length k1] 34)).cell? ⟨w1.heap.size, 1, none⟩ = some (.slice AA j cp) := (World.cell?_of_block (Below.heap_alloc wr _ _ hGr)).trans t1
          go_region_law
           (first
           | (go_simp; go_at_call 99; refine HCL.out.mono ?_; rintro e w3 ⟨⟨v3, rfl, hT3⟩, hb3⟩; obtain ⟨A3, c3, rfl⟩ := hT3.form; have hb3' : Below (wr.alloc (.cells #[.int .i64 a.kind, .slice B1 a.args.length k1] 34)).heap.size (wr.alloc (.cells #[.int .i64 a.kind, .slice B1 a.args.length k1] 34)) w3 := (Below.refl _ _).drew.trans hb3; have HT3 := Lib.hid hT3; have hs3 := hb3'.size; have hG3 : w1.heap.size < w3.heap.size := (by omega); have h83 : wr.heap.size < w3.heap.size := (by omega); have hbx3 : w3.heap[w1.heap.size]? = some (.cells #[.int .i64 t.kind, .slice AA j cp] 34 (0, 0)) := ((hb3'.block _ (by omega)).trans (Below.heap_alloc wr _ _ hGr)).trans HRR.out; have q0 := zG hbx3; have q1 := zF hbx3; have hbx8 := (hb3'.block wr.heap.size hl8).trans HCA.out; have r0 := zG hbx8; have r1 := zF hbx8; have HOW3 : Hid (w3.ownsRow (w1.heap.size + 1) 34 2 (.slice AA j cp) j cs) := HOW.out.kept (row := none) ⟨hb3'.os, hb3'.tape, hb3'.output, by omega, fun k hk _ => (hb3'.block k (by omega)).trans (Below.heap_alloc wr _ k hk)⟩ (by cases AA <;> simp [Value.ownBlock]))
           | (refine step_append_lies _ (by rfl) _ _ _ (by rfl) (w1.heap.size + 1) 34 i0 (.agg #[.int .i64 0, .slice none 0 0]) 2 32 Tryz.underlying32 hi hq0 hq1 hq2 rfl (by omega) (.slice AA j cp) j cs (by rfl) (HOW3.out.alloc _) ⟨w3.heap.size, 0, none⟩ 1 1 [.int .i64 (fillT r c a).kind, .slice A3 (fillT r c a).args.length c3] (by rfl) (by rfl) (World.news_of_block (cs := #[.int .i64 (fillT r c a).kind, .slice A3 (fillT r c a).args.length c3]) (t := 34) (fr := (0, 0)) (heap_alloc_new w3 _)) (by simp [Value.oneCell']) (by omega) (by unfold maxLen; omega) (by omega) (by simp; omega) (w3.heap.size + 1) (by simp) ?_; intro gg cap w7 hown7 hg7 hat7 hlt7; have hP7 : w7.heap[w1.heap.size]? = some (.cells #[.int .i64 t.kind, .slice AA j cp] 34 (0, 0)) := (hg7.block _ (by simp; omega) (fun e => by have := (HOW.out.lt _ e.symm).1; omega)).trans ((Below.heap_alloc w3 _ _ (by omega)).trans hbx3); have q7 := zF hP7; have qf7 := zB hP7 1; have hl7 := zC hP7; have hbx87 := (hg7.block wr.heap.size (by simp; omega) (fun e => by have := (HOW.out.lt _ e.symm).2; omega)).trans ((Below.heap_alloc w3 _ _ h83).trans hbx8); have r70 := zG hbx87; have r71 := zF hbx87)
           | fail)
          all_goals (
           have HI8 := Lib.hid (FlI.next HI.out hb3' HT3.out HAT.out hg7 hown7 (hat7.imp id fun h => by simpa using h))
           clear hg7 hown7 hat7 hb3' hbx3 hP7 hbx8 hbx87
           go_wp2_with (fail)
           go_roundw
           case rel => exact ⟨j + 1, cap, some ⟨gg, 0, none⟩, _, by go_num, by omega, HI8⟩
           case measure => simp [intOf]; omega)
        · obtain rfl : j = t.args.length := by omega
          have hjl : ¬ ((t.args.length : Int) < (t.args.length : Int)) := by omega
          have y0r := (hbr.block (w.heap.size + 1) (by omega)).trans HY1.out
          have v0 := zG y0r
          have v1 := zF y0r
          have vf0 := zB y0r 0
          have vf1 := zB y0r 1
          have vl := zC y0r
          go_wp2_with (fail)
          refine bodyPost_ret (v := .agg #[.int .i64 t.kind, .slice AA t.args.length cp]) (by simp [results, Tryz.results99, go_sem, v0, v1]) rfl ?_
          refine ⟨⟨_, rfl, ?_⟩, ((HB1.out.trans (hbr.mono (by omega))).setCell (p := ⟨w.heap.size + 1, 0, none⟩) (Nat.le_succ _) _).setCell (p := ⟨w.heap.size + 1, 1, none⟩) (Nat.le_succ _) _⟩
          rw [HF2.out]
          exact fl_end HI.out (by omega) (fun k hk => by have := HBD.out k hk; omega)
end Go.Proofs.YtaecndmncpfpfaaGreatDoor
namespace Go.Proofs.YtaecndmncpfpfaaGreatDoor
open Go.RowKit
set_option maxRecDepth 100000 in
set_option maxHeartbeats 1000000 in
theorem eqForm_any (P : Nat → Prop) (r dw d C : Nat) (A A' : Option Addr) (k k' : Nat) (l m : List Ty) (c : Ty × Ty) (w : World) (hr : FitOk r) (hl : ∀ a ∈ l, Dp r a) (hl2 : l.length ≤ 100) (hA : Knd.yE w P dw A l) (hA' : Knd.yE w P d A' m) (hC : ChAt w C P d c) :
    Calls Tryz.prog 97 #[.slice A l.length k, .slice A' m.length k', .func (.func 98) #[.pointer (some ⟨C, 0, none⟩)] #[]] w fun e w' => e = .returned (.bool (fitsA (yB r) c l m).2) ∧ ChAt w' C P d (fitsA (yB r) c l m).1 ∧ w.grownBy w' (some C) := by
 have HR := Lib.hid hr
 have HA := Lib.hid hA
 have HA' := Lib.hid hA'
 have HL := Lib.hid hl
 have HCC := Lib.hid hC
 have hCs := hC.lt
 have HBD := Lib.hid hC.bound
 clear hr hA hA' hl hC
 by_cases hlen : l.length = m.length
 · have hne : ((l.length : Int) != (m.length : Int)) = false := by simp [hlen]
   have HLEN := Lib.hid hlen
   have HFA : Hid (fitsA (yB r) c l m = fitsL (yB r) c l m) := by show _ = _; unfold fitsA; rw [if_pos hlen]
   clear hlen
   go_enter Tryz.func97, Tryz.ntmps97
   go_wp2_with (fail)
   go_loopw [17] (fun i wr => ∃ (j : Nat) (c1 : Ty × Ty), i = .int .i64 (j : Int) ∧ j ≤ l.length ∧ Hid (fitsA (yB r) c l m = fitsL (yB r) c1 (l.drop j) (m.drop j)) ∧ Hid (ChAt wr C P d c1) ∧ Hid (w.grownBy wr (some C))) (fun i _ => 1000 - (intOf i).toNat)
   case atStart => exact ⟨0, c, rfl, by omega, HFA, HCC, ⟨rfl, rfl, rfl, Nat.le_refl _, fun _ _ _ => rfl⟩⟩
   case round =>
    obtain ⟨j, c1, rfl, hj, HE, HC1, HG⟩ := hrel
    have hsr := HG.out.size
    have hClt := HC1.out.lt
    by_cases hlt : j < l.length
    · have hltm : j < m.length := by have := HLEN.out; omega
      obtain ⟨b, o, rfl, hSb, hcells⟩ := HA.out (by omega)
      obtain ⟨b', o', rfl, hSb', hcells'⟩ := HA'.out (by omega)
      obtain ⟨B1, k1, h0, h1, h2, hbl⟩ := arg_cells hcells hlt
      obtain ⟨B2, k2, h0', h1', h2', hbl'⟩ := arg_cells hcells' hltm
      have hbC : b < C := HBD.out b hSb
      have hbC' : b' < C := HBD.out b' hSb'
      have gc : ∀ (b o : Nat) (u : Value), b < C → w.cell? ⟨b, o, none⟩ = some u → wr.cell? ⟨b, o, none⟩ = some u := fun b o u hb h => (World.cell?_of_block (grown_low HG.out hCs b hb)).trans h
      have g0 := gc _ _ _ hbC h0
      have g1 := gc _ _ _ hbC h1
      have g0' := gc _ _ _ hbC' h0'
      have g1' := gc _ _ _ hbC' h1'
      have hbw' : b' < wr.heap.size := by omega
      have hd : l.drop j = l[j] :: l.drop (j + 1) := List.drop_eq_getElem_cons hlt
      have hd' : m.drop j = m[j] :: m.drop (j + 1) := List.drop_eq_getElem_cons hltm
      have hdp := HL.out _ (List.getElem_mem hlt)
      generalize l[j] = x at *
      generalize m[j] = y at *
      have HD := Lib.hid hd
      have HD' := Lib.hid hd'
      have HDP := Lib.hid hdp
      have H2 := Lib.hid (h2.grown HG.out hCs HBD.out)
      have H2' := Lib.hid (h2'.grown HG.out hCs HBD.out)
      clear h0 h1 h2 h0' h1' h2' hd hd' hdp hcells hcells' gc
      have hba := ((Below.refl wr.heap.size wr).alloc (Nat.le_refl _) (.cells #[.int .i64 x.kind, .slice B1 x.args.length k1] 34)).alloc (by simp) (.cells #[.int .i64 y.kind, .slice B2 y.args.length k2] 34)
      have HCW := Lib.hid (HR.out P dw d C _ _ x y c1 _ HDP.out (H2.out.set fun k hk => hba.block k (by have := HBD.out k hk; omega)) (H2'.out.set fun k hk => hba.block k (by have := HBD.out k hk; omega)) (HC1.out.below hba))
      have HBA := Lib.hid hba
      have HE2 : Hid (fitsA (yB r) c l m = match yB r c1 x y with
       | (c', true) => fitsL (yB r) c' (l.drop (j + 1)) (m.drop (j + 1))
       | (c', false) => (c', false)) := by
       show _ = _
       rw [HE.out, HD.out, HD'.out, fitsL]
       rfl
      clear hba
      go_wp2_with (fail)
      refine HCW.out.mono ?_
      rintro e w3 ⟨rfl, hch, hg3⟩
      have HG3 := Lib.hid (grown_step HG.out HBA.out hg3)
      obtain ⟨c2, q, hfq⟩ : ∃ c2 q, yB r c1 x y = (c2, q) := ⟨_, _, rfl⟩
      rw [hfq] at hch HE2 ⊢
      have HC2 := Lib.hid hch
      clear hch hg3 hfq g0 g1 g0' g1'
      cases q with
      | false =>
        have HF : Hid (fitsA (yB r) c l m = (c2, false)) := HE2.out
        go_wp2_with (fail)
        go_ret
        rw [HF.out]
        exact ⟨rfl, HC2.out, HG3.out⟩
      | true =>
        have HF : Hid (fitsA (yB r) c l m = fitsL (yB r) c2 (l.drop (j + 1)) (m.drop (j + 1))) := HE2.out
        go_wp2_with (fail)
        go_roundw
        case rel => exact ⟨j + 1, c2, by go_num, by omega, HF, HC2, HG3⟩
        case measure => simp [intOf]; omega
    · have HF : Hid (fitsA (yB r) c l m = (c1, true)) := by
        show _ = _
        rw [HE.out, List.drop_of_length_le (by omega), List.drop_of_length_le (by have := HLEN.out; omega)]
        rfl
      go_wp2_with (fail)
      go_ret
      rw [HF.out]
      exact ⟨rfl, HC1.out, HG.out⟩
 · have hne : ((l.length : Int) != (m.length : Int)) = true := by simp; omega
   have HF : Hid (fitsA (yB r) c l m = (c, false)) := by show _ = _; unfold fitsA; rw [if_neg hlen]
   clear hlen
   go_enter Tryz.func97, Tryz.ntmps97
   go_wp2_with (fail)
   go_ret
   rw [HF.out]
   exact ⟨rfl, HCC.out, ⟨rfl, rfl, rfl, Nat.le_refl _, fun _ _ _ => rfl⟩⟩
def FormsAt (w : World) (P : Nat → Prop) (d : Nat) (A : Option Addr) (fs : List (List Ty)) : Prop :=
 0 < fs.length → ∃ b o, A = some ⟨b, o, none⟩ ∧ P b ∧ ∀ (j : Nat) (f : List Ty), fs[j]? = some f → ∃ FA c, w.cell? ⟨b, o + j, none⟩ = some (.slice FA f.length c) ∧ f.length ≤ c ∧ Knd.yE w P d FA f
def FormOk (f : List Ty) : Prop := ∃ ws r, f = ws ++ [r] ∧ ws.length ≤ 100 ∧ (∀ x ∈ ws, Dp 9 x) ∧ Dp 9 r
def comeF (ts : List Ty) : List (List Ty) → Option Ty
 | [] => none
 | f :: fs => if (fitsA (yB 9) (ty0, ty0) f.dropLast ts).2 = true then (if (Knd.zH 6 (fillT 9 (fitsA (yB 9) (ty0, ty0) f.dropLast ts).1 (f.getLastD ty0))).isSome then some (fillT 9 (fitsA (yB 9) (ty0, ty0) f.dropLast ts).1 (f.getLastD ty0)) else none) else comeF ts fs
def CoOut (w' : World) (S : Nat → Prop) (d : Nat) (e : Ending) : Option Ty → Prop
 | none => e = .returned (.tuple #[.agg #[.int .i64 0, .slice none 0 0], .int .i64 50])
 | some t => ∃ v, e = .returned (.tuple #[v, .int .i64 0]) ∧ TyAt w' S d v t
theorem args_set {w w' : World} {P : Nat → Prop} {d : Nat} {A : Option Addr} {l : List Ty} (h : Knd.yE w P d A l) (hk : ∀ k, P k → w'.heap[k]? = w.heap[k]?) : Knd.yE w' P d A l := fun hl => by
 obtain ⟨b, o, h1, h2, h3⟩ := h hl
 exact ⟨b, o, h1, h2, fun j a ha => by
  obtain ⟨u0, u1, g0, g1, g2⟩ := h3 j a ha
  exact ⟨u0, u1, (World.cell?_of_block (hk b h2)).trans g0, (World.cell?_of_block (hk b h2)).trans g1, g2.set hk⟩⟩
theorem args_take {w : World} {P : Nat → Prop} {d : Nat} {A : Option Addr} {l m : List Ty} (h : Knd.yE w P d A (l ++ m)) : Knd.yE w P d A l := fun hl => by
 obtain ⟨b, o, h1, h2, h3⟩ := h (by rw [List.length_append]; omega)
 exact ⟨b, o, h1, h2, fun j a ha => h3 j a (by rw [List.getElem?_append_left (List.getElem?_eq_some_iff.1 ha).1]; exact ha)⟩
theorem ty0_at {w : World} {P : Nat → Prop} {d : Nat} (hd : 0 < d) : TyAt w P d (.agg #[.int .i64 0, .slice none 0 0]) ty0 := by
 obtain ⟨e, rfl⟩ : ∃ e, d = e + 1 := ⟨d - 1, by omega⟩
 exact ⟨none, 0, rfl, Nat.le_refl _, fun h => absurd h (by simp [ty0, Ty.args])⟩
set_option maxRecDepth 100000 in
set_option maxHeartbeats 4000000 in
theorem come_any (P : Nat → Prop) (d : Nat) (TA FA : Option Addr) (tk fk : Nat) (ts : List Ty) (fs : List (List Ty)) (w : World) (hP : ∀ k, P k → k < w.heap.size) (hT : Knd.yE w P d TA ts) (hF : FormsAt w P d FA fs) (hfs : ∀ f ∈ fs, FormOk f) (hfl : fs.length ≤ 10) (hd : 0 < d) (hG : Knd.Glob w) :
    Calls Tryz.prog 62 #[.slice TA ts.length tk, .slice FA fs.length fk] w fun e w' => CoOut w' (fun k => P k ∨ w.heap.size < k) (d + 9) e (comeF ts fs) ∧ Below w.heap.size w w' := by
 have HP := Lib.hid hP
 have HT := Lib.hid hT
 have HF := Lib.hid hF
 have HFS := Lib.hid hfs
 have HG := Lib.hid hG
 have hGl := hG.lt
 have hb1 := (Below.refl w.heap.size w).alloc (Nat.le_refl _) (.cells #[.int .i64 0, .slice none 0 0] 34)
 have HX0 := Lib.hid (heap_alloc_new w (.cells #[.int .i64 0, .slice none 0 0] 34))
 have HB1 := Lib.hid hb1
 clear hP hT hF hfs hG hb1
 go_enter Tryz.func62, Tryz.ntmps62
 go_wp2_with (fail)
 go_loopw [12] (fun iv wr => ∃ j : Nat, iv = .int .i64 (j : Int) ∧ j ≤ fs.length ∧ Hid (comeF ts fs = comeF ts (fs.drop j)) ∧ Hid (Below w.heap.size w wr) ∧ Hid (wr.heap[w.heap.size]? = some (.cells #[.int .i64 0, .slice none 0 0] 34 (0, 0)))) (fun iv _ => 100 - (intOf iv).toNat)
 case atStart => exact ⟨0, rfl, Nat.zero_le _, Lib.hid rfl, HB1, HX0⟩
 case round =>
  obtain ⟨j, rfl, hj, HE, HBR, HX⟩ := hrel
  have hsr := HBR.out.size
  have x0 := zG HX.out
  have x1 := zF HX.out
  have xf0 := zB HX.out 0
  have xf1 := zB HX.out 1
  have xl := zC HX.out
  by_cases hlt : j < fs.length
  · have hjl : ((j : Int) < (fs.length : Int)) := by omega
    obtain ⟨b, o, rfl, hSb, hcells⟩ := HF.out (by omega)
    obtain ⟨f, hf⟩ : ∃ f, fs[j]? = some f := ⟨_, List.getElem?_eq_getElem hlt⟩
    obtain ⟨FB, fc, h0, h1, h2⟩ := hcells j f hf
    have hbl := HP.out b hSb
    have g0 := (HBR.out.cell (p := ⟨b, o + j, none⟩) hbl).trans h0
    obtain ⟨ws, r, hwr, hwl, hws, hwd⟩ := HFS.out f (List.mem_of_getElem? hf)
    have hn : f.length = ws.length + 1 := by rw [hwr]; simp
    have HD : Hid (fs.drop j = f :: fs.drop (j + 1)) := by
     show _ = _
     rw [List.drop_eq_getElem_cons hlt]
     rw [List.getElem?_eq_getElem hlt] at hf
     injection hf with hf
     rw [hf]
    rw [hn] at g0
    have hnc : ws.length + 1 ≤ fc := by omega
    clear hf hcells
    have hFA : Knd.yE wr P d FB (ws ++ [r]) := args_set (hwr ▸ h2) fun k hk => HBR.out.block k (HP.out k hk)
    have hFW := args_take hFA
    have hTA : Knd.yE wr P d TA ts := args_set HT.out fun k hk => HBR.out.block k (HP.out k hk)
    have hba := (Below.refl wr.heap.size wr).alloc (Nat.le_refl _) (.cells #[.int .i64 0, .slice none 0 0, .int .i64 0, .slice none 0 0] 170)
    have hch : ChAt (wr.alloc (.cells #[.int .i64 0, .slice none 0 0, .int .i64 0, .slice none 0 0] 170)) wr.heap.size P d (ty0, ty0) :=
     ⟨⟨none, 0, none, 0, heap_alloc_new wr _, ty0_at hd, ty0_at hd⟩, HG.out.kept ((Below.heap_alloc wr _ _ (by omega)).trans (HBR.out.block _ hGl)), by omega, fun k hk => by have := HP.out k hk; omega⟩
    have HCW := Lib.hid (eqForm_any P 9 d d wr.heap.size FB TA fc tk ws ts (ty0, ty0) _ (fits_any 9) hws hwl (args_set hFW fun k hk => hba.block k (by have := HP.out k hk; omega)) (args_set hTA fun k hk => hba.block k (by have := HP.out k hk; omega)) hch)
    have HFA := Lib.hid hFA
    have HBA := Lib.hid hba
    clear h2 hFA hFW hTA hch hba
    go_upto_region 6 with (fail)
    go_wp2_with (fail)
    refine HCW.out.mono ?_
    rintro e w4 ⟨rfl, hch4, hg4⟩
    have HE2 : Hid (comeF ts fs = if (fitsA (yB 9) (ty0, ty0) ws ts).2 = true then (if (Knd.zH 6 (fillT 9 (fitsA (yB 9) (ty0, ty0) ws ts).1 r)).isSome then some (fillT 9 (fitsA (yB 9) (ty0, ty0) ws ts).1 r) else none) else comeF ts (fs.drop (j + 1))) := by
     show _ = _
     rw [HE.out, HD.out, comeF, hwr, List.dropLast_concat, List.getLastD_concat]
    obtain ⟨c2, q, hfq⟩ : ∃ c2 q, fitsA (yB 9) (ty0, ty0) ws ts = (c2, q) := ⟨_, _, rfl⟩
    rw [hfq] at hch4 HE2 ⊢
    have hs1 : wr.heap.size + 1 ≤ w4.heap.size := by have := hg4.size; simp only [World.alloc, Array.size_push] at this; exact this
    have hb4 : Below wr.heap.size wr w4 := ⟨hg4.os, hg4.tape, hg4.output, by omega, fun k hk => (hg4.block k (by have := HBA.out.size; omega) (fun e => by injection e with e; omega)).trans (HBA.out.block k hk)⟩
    have HB4 := Lib.hid hb4
    have HC4 := Lib.hid hch4
    clear hch4 hg4 hb4 hfq hwr
    cases q with
    | false =>
      have HF2 : Hid (comeF ts fs = comeF ts (fs.drop (j + 1))) := HE2.out
      go_wp2_with (fail)
      go_roundw
      case rel => exact ⟨j + 1, by go_num, by omega, HF2, Lib.hid (HBR.out.trans (HB4.out.mono hsr)), Lib.hid ((HB4.out.block _ xl).trans HX.out)⟩
      case measure => simp [intOf]; omega
    | true =>
      have HF2 : Hid (comeF ts fs = if (Knd.zH 6 (fillT 9 c2 r)).isSome then some (fillT 9 c2 r) else none) := HE2.out
      obtain ⟨fb, fo, rfl, hSf, hfc⟩ := HFA.out (by simp)
      obtain ⟨u0, u1, k0, k1, k2⟩ := hfc ws.length r (by simp)
      have hfl := HP.out fb hSf
      have m0 := (HB4.out.cell (p := ⟨fb, fo + ws.length * 2, none⟩) (Nat.lt_of_lt_of_le hfl hsr)).trans k0
      have m1 := (HB4.out.cell (p := ⟨fb, fo + ws.length * 2 + 1, none⟩) (Nat.lt_of_lt_of_le hfl hsr)).trans k1
      have HFI := Lib.hid (filled_any P 9 d d wr.heap.size _ r c2 w4 hwd (k2.set fun k hk => HB4.out.block k (by have := HP.out k hk; omega)) HC4.out)
      clear hfc k0 k1 k2
      have xl4 : w.heap.size < w4.heap.size := by omega
      have HG4 := Lib.hid ((HG.out.kept (HBR.out.block _ hGl)).kept (HB4.out.block _ (by omega)))
      have HX4 := Lib.hid ((HB4.out.block _ xl).trans HX.out)
      clear HG HX HCW x0 x1 xf0 xf1 xl g0
      go_upto_region 7 with (fail)
      go_wp2_with (fail)
      refine HFI.out.mono ?_
      rintro e w5 ⟨⟨v5, rfl, hT5⟩, hb5⟩
      have hG5 := HG4.out.kept (hb5.block _ (by omega))
      have HIR := Lib.hid (ifRight_any (d + 9) _ v5 (fillT 9 c2 r) w5 hT5 hG5)
      have HX5 := Lib.hid ((hb5.block _ xl4).trans HX4.out)
      have hs5 := hb5.size
      have HB5 := Lib.hid (HB4.out.trans (hb5.mono (by omega)))
      obtain ⟨A5, k5, rfl⟩ := hT5.form
      clear hT5 hb5 hG5 m0 m1 HX4
      go_wp2_with (fail)
      refine HIR.out.mono ?_
      rintro e w6 ⟨ho, hb6⟩
      have hs6 := hb6.size
      have HX6 := (hb6.block _ (by omega)).trans HX5.out
      have x0 := zG HX6
      have x1 := zF HX6
      have xf0 := zB HX6 0
      have xf1 := zB HX6 1
      have xl := zC HX6
      have HB6 := Lib.hid (HB5.out.trans (hb6.mono (by omega)))
      clear hb6 HX5 HIR HFI
      unfold IrOut at ho
      by_cases hm : (Knd.zH 6 (fillT 9 c2 r)).isSome = true
      · rw [if_pos hm] at ho
        obtain ⟨v6, rfl, hT6⟩ := ho
        obtain ⟨A6, k6, rfl⟩ := hT6.form
        have HT6 := Lib.hid hT6
        have HF3 : Hid (comeF ts fs = some (fillT 9 c2 r)) := by show _ = _; rw [HF2.out, if_pos hm]
        generalize fillT 9 c2 r = t6 at *
        clear hT6 HF2 hm
        go_wp2_with (fail)
        refine bodyPost_ret (v := .tuple #[.agg #[.int .i64 t6.kind, .slice A6 t6.args.length k6], .int .i64 0]) (by simp [results, Tryz.results62, go_sem, x0, x1]) rfl ?_
        rw [HF3.out]
        refine ⟨⟨_, rfl, HT6.out.move fun b hb _ => ⟨hb.imp id fun h => by omega, fun _ => World.cell?_of_block ?_⟩⟩, ((HBR.out.trans (HB6.out.mono hsr)).setCell (p := ⟨w.heap.size, 0, none⟩) (Nat.le_refl _) _).setCell (p := ⟨w.heap.size, 1, none⟩) (Nat.le_refl _) _⟩
        have hne : b ≠ w.heap.size := by
         rcases hb with h | h
         · have := HP.out b h
           omega
         · omega
        rw [Below.heap_setCell _ _ _ _ (by show b ≠ w.heap.size; exact hne), Below.heap_setCell _ _ _ _ (by show b ≠ w.heap.size; exact hne)]
      · rw [if_neg hm] at ho
        obtain rfl := ho
        have HF3 : Hid (comeF ts fs = none) := by show _ = _; rw [HF2.out, if_neg hm]
        clear HF2 hm
        go_wp2_with (fail)
        refine bodyPost_ret (v := .tuple #[.agg #[.int .i64 0, .slice none 0 0], .int .i64 50]) (by simp [results, Tryz.results62, go_sem, x0, x1]) rfl ?_
        rw [HF3.out]
        exact ⟨rfl, ((HBR.out.trans (HB6.out.mono hsr)).setCell (p := ⟨w.heap.size, 0, none⟩) (Nat.le_refl _) _).setCell (p := ⟨w.heap.size, 1, none⟩) (Nat.le_refl _) _⟩
  · have HF3 : Hid (comeF ts fs = none) := by
      show _ = _
      rw [HE.out, List.drop_of_length_le (by omega)]
      rfl
    have hjl : ¬ ((j : Int) < (fs.length : Int)) := by omega
    clear HG
    go_wp2_with (fail)
    refine bodyPost_ret (v := .tuple #[.agg #[.int .i64 0, .slice none 0 0], .int .i64 50]) (by simp [results, Tryz.results62, go_sem, x0, x1]) rfl ?_
    rw [HF3.out]
    exact ⟨rfl, (HBR.out.setCell (p := ⟨w.heap.size, 0, none⟩) (Nat.le_refl _) _).setCell (p := ⟨w.heap.size, 1, none⟩) (Nat.le_refl _) _⟩
