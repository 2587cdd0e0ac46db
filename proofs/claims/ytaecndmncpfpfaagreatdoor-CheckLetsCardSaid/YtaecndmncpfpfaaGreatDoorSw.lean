import Derived.Test.YtaecndmncpfpfaaGreatDoorLh
import Derived.Test.YtaecndmncpfpfaaGreatDoorOfn
import Derived.Test.YtaecndmncpfpfaaGreatDoorEv
import Derived.Deep.AppendLies
set_option linter.unusedVariables false
set_option linter.unusedSimpArgs false
namespace Go.Proofs.YtaecndmncpfpfaaGreatDoor.L5
open Go.RowKit
theorem infoN : (Tryz.prog.info? 27).map (fun i => (i.zero, i.size, i.bytes)) = some (some (.agg #[.string ⟨#[]⟩, .int .i64 0, .string ⟨#[]⟩, .int .i64 0, .slice none 0 0, .slice none 0 0]), 6, 96) := by kernel_rfl
structure SwI (w1 : World) (P : Nat → Prop) (G : Nat) (x0 x1 x2 x3 x4 : Value) (F : Nd → Nd) (kids : List Nd) (d j : Nat) (A : Option Addr) (c : Nat) (cs : List Value) (wr : World) : Prop where
 below : Below G w1 wr
 base : w1.heap.size = G
 low : ∀ k, P k → k < G
 box : wr.heap[G]? = some (.cells #[x0, x1, x2, x3, x4, .slice A j c] 27 (0, 0))
 own : wr.ownsRow (G + 1) 27 6 (.slice A j c) j cs
 args : ∀ (i : Nat) (a : Nd), i < j → kids[i]? = some a → ∃ u0 u1 u2 u3 u4 u5, cs[i * 6]? = some u0 ∧ cs[i * 6 + 1]? = some u1 ∧ cs[i * 6 + 2]? = some u2 ∧ cs[i * 6 + 3]? = some u3 ∧ cs[i * 6 + 4]? = some u4 ∧ cs[i * 6 + 5]? = some u5 ∧ NdAt wr (fun b => (P b ∨ G < b) ∧ some b ≠ (Value.slice A j c).ownBlock) d (.agg #[u0, u1, u2, u3, u4, u5]) (F a)
theorem SwI.next {w1 wr w3 w7 : World} {P : Nat → Prop} {G g cap : Nat} {x0 x1 x2 x3 x4 : Value} {F : Nd → Nd} {kids : List Nd} {a : Nd} {d j c : Nat} {A : Option Addr} {u0 u1 u2 u3 u4 u5 : Value} {cs : List Value} {o1 o2 : Obj} (h : SwI w1 P G x0 x1 x2 x3 x4 F kids d j A c cs wr)
    (hb : Below (wr.alloc o1).heap.size (wr.alloc o1) w3) (hT : NdAt w3 (fun b => P b ∨ G < b ∧ some b ≠ (Value.slice A j c).ownBlock) d (.agg #[u0, u1, u2, u3, u4, u5]) (F a)) (ha : kids[j]? = some a)
    (hg : (w3.alloc o2).grownBy w7 (Value.slice A j c).ownBlock) (hown7 : w7.ownsRow (G + 1) 27 6 (.slice (some ⟨g, 0, none⟩) (j + 1) cap) (j + 1) (cs ++ [u0, u1, u2, u3, u4, u5])) (hat : (Value.slice A j c).ownBlock = some g ∨ g = (w3.alloc o2).heap.size) :
    SwI w1 P G x0 x1 x2 x3 x4 F kids d (j + 1) (some ⟨g, 0, none⟩) cap (cs ++ [u0, u1, u2, u3, u4, u5]) (w7.setCell ⟨G, 5, none⟩ (.slice (some ⟨g, 0, none⟩) (j + 1) cap)) := by
 have hlow := h.low
 have hGr := cell_lt h.box
 have hs3 := hb.size
 have e1 : (wr.alloc o1).heap.size = wr.heap.size + 1 := by simp
 have e3 : (w3.alloc o2).heap.size = w3.heap.size + 1 := by simp
 have hs7 := hg.size
 have hgG : G + 1 ≤ g := (hown7.lt g rfl).1
 have hvs : ∀ b, (Value.slice A j c).ownBlock = some b → G + 1 ≤ b ∧ b < wr.heap.size := h.own.lt
 have setG : ∀ b, b ≠ G → (w7.setCell ⟨G, 5, none⟩ (.slice (some ⟨g, 0, none⟩) (j + 1) cap)).heap[b]? = w7.heap[b]? := fun b hb => Below.heap_setCell _ _ _ _ (by show b ≠ G; exact hb)
 have step3 : ∀ b, b < w3.heap.size → some b ≠ (Value.slice A j c).ownBlock → w7.heap[b]? = w3.heap[b]? := fun b hl hne => by
  rw [hg.block b (by omega) hne, Below.heap_alloc _ _ _ hl]
 have stepr : ∀ b, b < wr.heap.size → some b ≠ (Value.slice A j c).ownBlock → w7.heap[b]? = wr.heap[b]? := fun b hl hne => by
  rw [step3 b (by omega) hne, hb.block b (by omega), Below.heap_alloc _ _ _ hl]
 have ne1 : ∀ b, b ≤ G → some b ≠ (Value.slice A j c).ownBlock := fun b hl e => by have := (hvs b e.symm).1; omega
 have hkp := hown7.kept (row := some G) (Only.set_ G 5 _ (.slice (some ⟨g, 0, none⟩) (j + 1) cap)) (.inr (fun e => by have e2 : g = G := (by simpa [Value.ownBlock] using e); omega))
 refine ⟨?_, h.base, hlow, ?_, hkp, fun i b hi hib => ?_⟩
 · have hbr : Below G w1 w3 := (h.below.alloc (by omega) o1).trans (hb.mono (by omega))
   have hb7 : Below G w1 w7 := (hbr.alloc (by omega) o2).grown hg (by omega) (fun k hk => by have := (hvs k hk).1; omega)
   exact hb7.setCell (p := ⟨G, 5, none⟩) (Nat.le_refl _) _
 · have h7 : w7.heap[G]? = some (.cells #[x0, x1, x2, x3, x4, .slice A j c] 27 (0, 0)) := by rw [stepr G hGr (ne1 G (Nat.le_refl _))]; exact h.box
   simp [World.setCell, Array.getElem?_modify, h7]
 · have hcl : cs.length = j * 6 := h.own.1
   rcases Nat.lt_or_ge i j with hlt | hge
   · obtain ⟨z0, z1, z2, z3, z4, z5, h0, h1, h2, h3, h4, h5, h6⟩ := h.args i b hlt hib
     refine ⟨z0, z1, z2, z3, z4, z5, by rw [List.getElem?_append_left (by omega)]; exact h0, by rw [List.getElem?_append_left (by omega)]; exact h1, by rw [List.getElem?_append_left (by omega)]; exact h2, by rw [List.getElem?_append_left (by omega)]; exact h3, by rw [List.getElem?_append_left (by omega)]; exact h4, by rw [List.getElem?_append_left (by omega)]; exact h5, h6.move fun k hk hl => ⟨⟨hk.1, fun e => ?_⟩, fun _ => World.cell?_of_block ((setG k (hk.1.elim (fun h => Nat.ne_of_lt (hlow k h)) (fun h => by omega))).trans (stepr k hl hk.2))⟩⟩
     have e' : k = g := by injection e
     rcases hat with hh | hh
     · exact hk.2 (by rw [hh, e'])
     · omega
   · obtain rfl : i = j := by omega
     rw [ha] at hib
     injection hib with hib
     subst hib
     have nev2 : ∀ k, (P k ∨ G < k ∧ some k ≠ (Value.slice A i c).ownBlock) → some k ≠ (Value.slice A i c).ownBlock := fun k hk => by
      rcases hk with h | h
      · exact ne1 k (Nat.le_of_lt (hlow k h))
      · exact h.2
     refine ⟨u0, u1, u2, u3, u4, u5, by rw [List.getElem?_append_right (by omega)]; simp [show i * 6 - cs.length = 0 by omega], by rw [List.getElem?_append_right (by omega)]; simp [show i * 6 + 1 - cs.length = 1 by omega], by rw [List.getElem?_append_right (by omega)]; simp [show i * 6 + 2 - cs.length = 2 by omega], by rw [List.getElem?_append_right (by omega)]; simp [show i * 6 + 3 - cs.length = 3 by omega], by rw [List.getElem?_append_right (by omega)]; simp [show i * 6 + 4 - cs.length = 4 by omega], by rw [List.getElem?_append_right (by omega)]; simp [show i * 6 + 5 - cs.length = 5 by omega], hT.move fun k hk hl => ⟨⟨hk.elim .inl (fun h => .inr h.1), fun e => ?_⟩, fun _ => World.cell?_of_block ((setG k (hk.elim (fun h => Nat.ne_of_lt (hlow k h)) (fun h => by omega))).trans (step3 k hl (nev2 k hk)))⟩⟩
     have e' : k = g := by injection e
     rcases hat with hh | hh
     · exact nev2 k hk (by rw [hh, e'])
     · omega
theorem sw_made {w w1 wr : World} {S : Nat → Prop} {s q : Nat} {t : Nd} {A AA : Option Addr} {c cp d dt : Nat} {G : Nat} {x2 : Value} {cs : List Value} {wF : World} (h : SwI w1 S G (.string ⟨t.op.toArray⟩) (.int .i64 t.int) x2 (.int .i64 t.ty.kind) (.slice A t.ty.args.length c) (swapT s q) t.kids d t.kids.length AA cp cs wr) (hw : w.heap.size < G)
    (hF : ∀ b, b < wr.heap.size → b + 1 ≠ G → wF.heap[b]? = wr.heap[b]?) (hSG : ∀ b, S b → b < w.heap.size) (hGw : w.heap.size + 3 = G)
    (hT : TyAt wr S dt (.agg #[.int .i64 t.ty.kind, .slice A t.ty.args.length c]) t.ty) :
    NdAt wF (fun b => S b ∨ w.heap.size ≤ b) (d + 1) (.agg #[.string ⟨t.op.toArray⟩, .int .i64 t.int, .string ⟨t.text.toArray⟩, .int .i64 t.ty.kind, .slice A t.ty.args.length c, .slice AA t.kids.length cp]) (.mk t.op t.int t.text t.ty (t.kids.map (swapT s q))) := by
 have hSne : ∀ b, S b → b + 1 ≠ G := fun b hb => by have := hSG b hb; omega
 have hl : (Nd.mk t.op t.int t.text t.ty (t.kids.map (swapT s q))).kids.length = t.kids.length := List.length_map _
 refine ⟨A, c, AA, cp, by rw [hl]; rfl, ⟨dt, hT.move fun b hb hl => ⟨.inl hb, fun _ => World.cell?_of_block (hF b hl (hSne b hb))⟩⟩, ?_, ?_⟩
 · rw [hl]
   rcases h.own.2 with ⟨e, h0⟩ | ⟨g, cap, cur, e, hbg, hg, hnc, _⟩
   · injection e with e1 e2 e3; omega
   · injection e with e1 e2 e3; omega
 · rw [hl]
   intro hpos
   have hown := h.own
   rcases h.own.2 with ⟨e, h0⟩ | ⟨g, cap, cur, e, hbg, hg, hnc, _⟩
   · injection e with e1 e2 e3; omega
   · injection e with e1 e2 e3
     subst e1
     have hgl := cell_lt hg
     refine ⟨g, 0, rfl, .inr (by omega), fun j a ha => ?_⟩
     have hm : (t.kids.map (swapT s q))[j]? = some a := ha
     rw [List.getElem?_map] at hm
     obtain ⟨a0, ha0, rfl⟩ := Option.map_eq_some_iff.1 hm
     have hjl := (List.getElem?_eq_some_iff.1 ha0).1
     obtain ⟨u0, u1, u2, u3, u4, u5, h0, h1, h2, h3, h4, h5, h6⟩ := h.args j a0 hjl ha0
     have hgF : ∀ o, wF.cell? ⟨g, o, none⟩ = wr.cell? ⟨g, o, none⟩ := fun o => World.cell?_of_block (hF g hgl (by omega))
     refine ⟨u0, u1, u2, u3, u4, u5, ?_, ?_, ?_, ?_, ?_, ?_, h6.move fun k hk hl => ⟨hk.1.elim .inl (fun h => .inr (by omega)), fun _ => World.cell?_of_block (hF k hl (hk.1.elim (hSne k) (fun h => by omega)))⟩⟩
     · rw [Nat.zero_add, hgF, hown.cellAt _ (by omega)]; exact h0
     · rw [Nat.zero_add, hgF, hown.cellAt _ (by omega)]; exact h1
     · rw [Nat.zero_add, hgF, hown.cellAt _ (by omega)]; exact h2
     · rw [Nat.zero_add, hgF, hown.cellAt _ (by omega)]; exact h3
     · rw [Nat.zero_add, hgF, hown.cellAt _ (by omega)]; exact h4
     · rw [Nat.zero_add, hgF, hown.cellAt _ (by omega)]; exact h5
theorem nd_w (w : World) (S : Nat → Prop) (d : Nat) : NdAt w S (d + 1) (.agg #[.string ⟨#[110, 97, 109, 101]⟩, .int .i64 0, .string ⟨#[119]⟩, .int .i64 0, .slice none 0 0, .slice none 0 0]) (.mk nameW 0 wW ty0 []) :=
 ⟨none, 0, none, 0, rfl, ⟨1, ty_zero w S⟩, Nat.le_refl _, fun h => absurd h (by simp [Nd.kids])⟩
set_option maxRecDepth 100000 in
set_option maxHeartbeats 4000000 in
theorem swap_any (k5 : Int) (EA SA : Option Addr) (el ek s sk : Nat) : ∀ (q d : Nat) (S : Nat → Prop) (v : Value) (t : Nd) (w : World), NarN q t → NdAt w S d v t → (∀ b, S b → b < w.heap.size) →
    Calls Tryz.prog 26 #[v, .agg #[.int .i64 k5, .slice EA el ek, .slice SA s sk]] w fun e w' => (∃ v', e = .returned v' ∧ NdAt w' (fun b => S b ∨ w.heap.size ≤ b) d v' (swapT s q t)) ∧ Below w.heap.size w w'
 | 0, d, S, v, t, w, hN, _, _ => hN.elim
 | q + 1, 0, S, v, t, w, _, hT, _ => hT.elim
 | q + 1, d + 1, S, v, t, w, hN, hT, hSw => by
   obtain ⟨i0, hi, hq0, hq1, hq2⟩ := info_parts infoN
   obtain ⟨hnar, hlen, hall⟩ := hN
   have HIH := Lib.hid (swap_any k5 EA SA el ek s sk q d)
   have HALL := Lib.hid hall
   obtain ⟨A, c, K, kc, rfl, ⟨dt, hty⟩, hlc, hA⟩ := hT
   have HA := Lib.hid hA
   have HTY := Lib.hid hty
   have HSW := Lib.hid hSw
   obtain ⟨W0, hW0⟩ : ∃ W0, ((w.alloc (.cells #[.string ⟨t.op.toArray⟩, .int .i64 t.int, .string ⟨t.text.toArray⟩, .int .i64 t.ty.kind, .slice A t.ty.args.length c, .slice K t.kids.length kc] 27)).alloc (.cells #[.int .i64 k5, .slice EA el ek, .slice SA s sk] 29)).alloc (.cells #[.string ⟨#[]⟩, .int .i64 0, .string ⟨#[]⟩, .int .i64 0, .slice none 0 0, .slice none 0 0] 27) = W0 := ⟨_, rfl⟩
   have hB0 : Below w.heap.size w W0 := by
    rw [← hW0]
    exact (((Below.refl _ w).alloc (Nat.le_refl _) _).alloc (by simp) _).alloc (by simp; omega) _
   have hs0 : W0.heap.size = w.heap.size + 3 := by rw [← hW0]; simp
   have b0 : W0.heap[w.heap.size]? = some (.cells #[.string ⟨t.op.toArray⟩, .int .i64 t.int, .string ⟨t.text.toArray⟩, .int .i64 t.ty.kind, .slice A t.ty.args.length c, .slice K t.kids.length kc] 27 (0, 0)) := by
    rw [← hW0]
    exact alloc_old (alloc_old (heap_alloc_new w _))
   have b1 : W0.heap[w.heap.size + 1]? = some (.cells #[.int .i64 k5, .slice EA el ek, .slice SA s sk] 29 (0, 0)) := by
    rw [← hW0]
    exact alloc_old (heap_new_at (by simp))
   have b2 : W0.heap[w.heap.size + 1 + 1]? = some (.cells #[.string ⟨#[]⟩, .int .i64 0, .string ⟨#[]⟩, .int .i64 0, .slice none 0 0, .slice none 0 0] 27 (0, 0)) := by
    rw [← hW0]
    exact heap_new_at (by simp)
   have HW0 := Lib.hid hW0
   clear hW0 hall hnar hA hty hSw
   go_enter Tryz.func26, Tryz.ntmps26
   go_upto_region 1 with (fail)
   rw [HW0.out]
   clear HW0
   have n0 := cell6_0 b0
   have n1 := cell6_1 b0
   have n2 := cell6_2 b0
   have n3 := cell6_3 b0
   have n4 := cell6_4 b0
   have n5 := cell6_5 b0
   have m0 := cell3_0 b1
   have m1 := cell3_1 b1
   have m2 := cell3_2 b1
   have l0 := cell_lt b0
   have l1 := cell_lt b1
   have HB0 := Lib.hid hB0
   have HX0 := Lib.hid b0
   have HX1 := Lib.hid b1
   have HX2 := Lib.hid b2
   have HS0 := Lib.hid hs0
   clear b0 b1 b2 hB0 hs0
   by_cases h1 : t.op = sideW ∧ t.int = (s : Int)
   · have e1 : (t.op == [115, 105, 100, 101]) = true := by rw [h1.1]; rfl
     have e2 : (t.int = (s : Int)) := h1.2
     have e3 : swapT s (q + 1) t = .mk nameW 0 wW ty0 [] := by rw [swapT, if_pos h1]
     have HE3 := Lib.hid e3
     have y0 := HX2.out
     have y1 := cell6_0 y0
     have y2 := cell6_1 y0
     have y3 := cell6_2 y0
     have y4 := cell6_3 y0
     have y5 := cell6_4 y0
     have y6 := cell6_5 y0
     have yl := cell_lt y0
     have z0 := cell3_f y0 0
     have z1 := cell3_f y0 1
     have z2 := cell3_f y0 2
     have z3 := cell3_f y0 3
     have z4 := cell3_f y0 4
     have z5 := cell3_f y0 5
     clear h1 e3 y0
     go_wp2_with (fail)
     have hp := put6_heap (b0 := .string ⟨#[110, 97, 109, 101]⟩) (b1 := .int .i64 0) (b2 := .string ⟨#[119]⟩) (b3 := .int .i64 0) (b4 := .slice none 0 0) (b5 := .slice none 0 0) HX2.out
     have HBF : Below w.heap.size w ((((((W0.setCell ⟨w.heap.size + 1 + 1, 0, none⟩ (.string ⟨#[110, 97, 109, 101]⟩)).setCell ⟨w.heap.size + 1 + 1, 1, none⟩ (.int .i64 0)).setCell ⟨w.heap.size + 1 + 1, 2, none⟩ (.string ⟨#[119]⟩)).setCell ⟨w.heap.size + 1 + 1, 3, none⟩ (.int .i64 0)).setCell ⟨w.heap.size + 1 + 1, 4, none⟩ (.slice none 0 0)).setCell ⟨w.heap.size + 1 + 1, 5, none⟩ (.slice none 0 0)) := by
      have hbb := HB0.out
      repeat' (first | with_reducible assumption | with_reducible refine Below.set_own ?_ ?_ | (dsimp only; omega))
     generalize ((((((W0.setCell ⟨w.heap.size + 1 + 1, 0, none⟩ (.string ⟨#[110, 97, 109, 101]⟩)).setCell ⟨w.heap.size + 1 + 1, 1, none⟩ (.int .i64 0)).setCell ⟨w.heap.size + 1 + 1, 2, none⟩ (.string ⟨#[119]⟩)).setCell ⟨w.heap.size + 1 + 1, 3, none⟩ (.int .i64 0)).setCell ⟨w.heap.size + 1 + 1, 4, none⟩ (.slice none 0 0)).setCell ⟨w.heap.size + 1 + 1, 5, none⟩ (.slice none 0 0)) = wF at *
     have p0 := cell6_0 hp
     have p1 := cell6_1 hp
     have p2 := cell6_2 hp
     have p3 := cell6_3 hp
     have p4 := cell6_4 hp
     have p5 := cell6_5 hp
     refine bodyPost_ret (v := .agg #[.string ⟨#[110, 97, 109, 101]⟩, .int .i64 0, .string ⟨#[119]⟩, .int .i64 0, .slice none 0 0, .slice none 0 0]) (by simp [results, Tryz.results26, go_sem, p0, p1, p2, p3, p4, p5]) rfl ?_
     rw [HE3.out]
     exact ⟨⟨_, rfl, nd_w _ _ _⟩, HBF⟩
   · have e3 : swapT s (q + 1) t = .mk t.op t.int t.text t.ty (t.kids.map (swapT s q)) := by rw [swapT, if_neg h1]
     have HE3 := Lib.hid e3
     have HG0 : Hid (SwI W0 S W0.heap.size (.string ⟨t.op.toArray⟩) (.int .i64 t.int) (.string ⟨t.text.toArray⟩) (.int .i64 t.ty.kind) (.slice A t.ty.args.length c) (swapT s q) t.kids d 0 none 0 [] (W0.alloc (.cells #[.string ⟨t.op.toArray⟩, .int .i64 t.int, .string ⟨t.text.toArray⟩, .int .i64 t.ty.kind, .slice A t.ty.args.length c, .slice none 0 0] 27))) :=
      Lib.hid ⟨(Below.refl _ W0).alloc (Nat.le_refl _) _, rfl, fun k hk => by have := HSW.out k hk; have := HS0.out; omega, heap_alloc_new W0 _, World.ownsRow_nil _ _ _ _, fun i a hi => by omega⟩
     clear e3
     obtain ⟨bb, hbb⟩ : ∃ bb : Bool, (t.op == [115, 105, 100, 101]) = bb := ⟨_, rfl⟩
     cases bb
     case' true =>
      have e2 : (t.int == (s : Int)) = false := by
       rw [beq_eq_false_iff_ne]
       exact fun e => h1 ⟨by simpa [sideW] using hbb, e⟩
      clear h1
      go_upto_region 5 with (fail)
      clear hbb e2
     case' false =>
      clear h1
      go_upto_region 5 with (fail)
      clear hbb
     all_goals (
      go_wp2_with (fail)
      go_loopw [25] (fun iv wr => ∃ (j cp : Nat) (AA : Option Addr) (cs : List Value), iv = .int .i64 (j : Int) ∧ j ≤ t.kids.length ∧ Hid (SwI W0 S W0.heap.size (.string ⟨t.op.toArray⟩) (.int .i64 t.int) (.string ⟨t.text.toArray⟩) (.int .i64 t.ty.kind) (.slice A t.ty.args.length c) (swapT s q) t.kids d j AA cp cs wr)) (fun iv _ => 6000 - (intOf iv).toNat)
      case atStart => exact ⟨0, 0, none, [], rfl, Nat.zero_le _, HG0⟩
      case round =>
       obtain ⟨j, cp, AA, cs, rfl, hj, HI⟩ := hrel
       have hbr := HI.out.below
       have hGr := cell_lt HI.out.box
       have t5 := cell6_5 HI.out.box
       by_cases hlt : j < t.kids.length
       · have hjl : ((j : Int) < (t.kids.length : Int)) := by omega
         obtain ⟨b, o, rfl, hSb, hcells⟩ := HA.out (by omega)
         obtain ⟨a, ha⟩ : ∃ a, t.kids[j]? = some a := ⟨_, List.getElem?_eq_getElem hlt⟩
         obtain ⟨A', c', K', k', h0, h1, h2, h3, h4, h5, h6, hbl⟩ := kid_cells hcells ha
         have low : ∀ k, k < w.heap.size → wr.heap[k]? = w.heap[k]? := fun k hk => (hbr.block k (by have := HS0.out; omega)).trans (HB0.out.block k hk)
         have hbw : b < w.heap.size := HSW.out b hSb
         have g0 : wr.cell? ⟨b, o + j * 6, none⟩ = some _ := (World.cell?_of_block (low b hbw)).trans h0
         have g1 : wr.cell? ⟨b, o + j * 6 + 1, none⟩ = some _ := (World.cell?_of_block (low b hbw)).trans h1
         have g2 : wr.cell? ⟨b, o + j * 6 + 2, none⟩ = some _ := (World.cell?_of_block (low b hbw)).trans h2
         have g3 : wr.cell? ⟨b, o + j * 6 + 3, none⟩ = some _ := (World.cell?_of_block (low b hbw)).trans h3
         have g4 : wr.cell? ⟨b, o + j * 6 + 4, none⟩ = some _ := (World.cell?_of_block (low b hbw)).trans h4
         have g5 : wr.cell? ⟨b, o + j * 6 + 5, none⟩ = some _ := (World.cell?_of_block (low b hbw)).trans h5
         have hbx := hbw
         have hbwr : b < wr.heap.size := by have := HS0.out; have := hbr.size; omega
         have hba := (Below.refl wr.heap.size wr).alloc (Nat.le_refl _) (.cells #[.string ⟨a.op.toArray⟩, .int .i64 a.int, .string ⟨a.text.toArray⟩, .int .i64 a.ty.kind, .slice A' a.ty.args.length c', .slice K' a.kids.length k'] 27)
         have hND : NdAt (wr.alloc (.cells #[.string ⟨a.op.toArray⟩, .int .i64 a.int, .string ⟨a.text.toArray⟩, .int .i64 a.ty.kind, .slice A' a.ty.args.length c', .slice K' a.kids.length k'] 27)).drew S d (.agg #[.string ⟨a.op.toArray⟩, .int .i64 a.int, .string ⟨a.text.toArray⟩, .int .i64 a.ty.kind, .slice A' a.ty.args.length c', .slice K' a.kids.length k']) a := NdAt.move (fun k hk hl => ⟨hk, fun _ => World.cell?_of_block (by
          have h1 : (wr.alloc (.cells #[.string ⟨a.op.toArray⟩, .int .i64 a.int, .string ⟨a.text.toArray⟩, .int .i64 a.ty.kind, .slice A' a.ty.args.length c', .slice K' a.kids.length k'] 27)).heap[k]? = wr.heap[k]? := Below.heap_alloc wr _ _ (by have := HSW.out k hk; have := HS0.out; have := hbr.size; omega)
          exact h1.trans (low k (HSW.out k hk)))⟩) _ _ _ h6
         have HCL := Lib.hid (HIH.out S (.agg #[.string ⟨a.op.toArray⟩, .int .i64 a.int, .string ⟨a.text.toArray⟩, .int .i64 a.ty.kind, .slice A' a.ty.args.length c', .slice K' a.kids.length k']) a (wr.alloc (.cells #[.string ⟨a.op.toArray⟩, .int .i64 a.int, .string ⟨a.text.toArray⟩, .int .i64 a.ty.kind, .slice A' a.ty.args.length c', .slice K' a.kids.length k'] 27)).drew (HALL.out a (List.mem_of_getElem? ha)) hND (fun k hk => by have := HSW.out k hk; have := HS0.out; have := hbr.size; show k < (wr.alloc (.cells #[.string ⟨a.op.toArray⟩, .int .i64 a.int, .string ⟨a.text.toArray⟩, .int .i64 a.ty.kind, .slice A' a.ty.args.length c', .slice K' a.kids.length k'] 27)).heap.size; simp; omega))
         have HAT := Lib.hid ha
         have hcl : cs.length = j * 6 := HI.out.own.1
         clear h0 h1 h2 h3 h4 h5 h6 ha hcells low hND
         have HOW := Lib.hid HI.out.own
         have HRR := Lib.hid HI.out.box
         have HBA := Lib.hid hba
         have hs1w : (wr.alloc (.cells #[.string ⟨a.op.toArray⟩, .int .i64 a.int, .string ⟨a.text.toArray⟩, .int .i64 a.ty.kind, .slice A' a.ty.args.length c', .slice K' a.kids.length k'] 27)).heap.size = wr.heap.size + 1 := by simp
         have HCA := Lib.hid (heap_alloc_new wr (.cells #[.string ⟨a.op.toArray⟩, .int .i64 a.int, .string ⟨a.text.toArray⟩, .int .i64 a.ty.kind, .slice A' a.ty.args.length c', .slice K' a.kids.length k'] 27))
         have HEE : Hid (wr.heap[w.heap.size + 1]? = some (.cells #[.int .i64 k5, .slice EA el ek, .slice SA s sk] 29 (0, 0))) := Lib.hid ((hbr.block _ (by have := HS0.out; omega)).trans HX1.out)
         clear hba
         go_upto_region 8 with (fail)
         have c80 := cell6_0 HCA.out
         have c81 := cell6_1 HCA.out
         have c82 := cell6_2 HCA.out
         have c83 := cell6_3 HCA.out
         have c84 := cell6_4 HCA.out
         have c85 := cell6_5 HCA.out
         have hl8 := cell_lt HCA.out
         have hee := (Below.heap_alloc wr (.cells #[.string ⟨a.op.toArray⟩, .int .i64 a.int, .string ⟨a.text.toArray⟩, .int .i64 a.ty.kind, .slice A' a.ty.args.length c', .slice K' a.kids.length k'] 27) _ (cell_lt HEE.out)).trans HEE.out
         have e80 := cell3_0 hee
         have e81 := cell3_1 hee
         have e82 := cell3_2 hee
         have el8 := cell_lt hee
         have tG2 : (wr.alloc (.cells #[.string ⟨a.op.toArray⟩, .int .i64 a.int, .string ⟨a.text.toArray⟩, .int .i64 a.ty.kind, .slice A' a.ty.args.length c', .slice K' a.kids.length k'] 27)).cell? ⟨W0.heap.size, 5, none⟩ = some (.slice AA j cp) := (World.cell?_of_block (Below.heap_alloc wr _ _ hGr)).trans t5
         go_region_law
          (first
          | (go_simp; go_at_call 26; refine HCL.out.mono ?_; rintro e w3 ⟨⟨v3, rfl, hT3⟩, hb3⟩; obtain ⟨A3, c3, K3, k3, rfl⟩ := hT3.form; have hb3' : Below (wr.alloc (.cells #[.string ⟨a.op.toArray⟩, .int .i64 a.int, .string ⟨a.text.toArray⟩, .int .i64 a.ty.kind, .slice A' a.ty.args.length c', .slice K' a.kids.length k'] 27)).heap.size (wr.alloc (.cells #[.string ⟨a.op.toArray⟩, .int .i64 a.int, .string ⟨a.text.toArray⟩, .int .i64 a.ty.kind, .slice A' a.ty.args.length c', .slice K' a.kids.length k'] 27)) w3 := (Below.refl _ _).drew.trans hb3; have HT3 := Lib.hid hT3; have hs3 := hb3'.size; have hG3 : W0.heap.size < w3.heap.size := (by omega); have h83 : wr.heap.size < w3.heap.size := (by omega); have hbx3 : w3.heap[W0.heap.size]? = some (.cells #[.string ⟨t.op.toArray⟩, .int .i64 t.int, .string ⟨t.text.toArray⟩, .int .i64 t.ty.kind, .slice A t.ty.args.length c, .slice AA j cp] 27 (0, 0)) := ((hb3'.block _ (by omega)).trans (Below.heap_alloc wr _ _ hGr)).trans HRR.out; have q5 := cell6_5 hbx3; have HOW3 : Hid (w3.ownsRow (W0.heap.size + 1) 27 6 (.slice AA j cp) j cs) := HOW.out.kept (row := none) ⟨hb3'.os, hb3'.tape, hb3'.output, by omega, fun k hk _ => (hb3'.block k (by omega)).trans (Below.heap_alloc wr _ k hk)⟩ (by cases AA <;> simp [Value.ownBlock]); generalize hx : swapT s q a = x at *)
          | (refine step_append_lies _ (by rfl) _ _ _ (by rfl) (W0.heap.size + 1) 27 i0 (.agg #[.string ⟨#[]⟩, .int .i64 0, .string ⟨#[]⟩, .int .i64 0, .slice none 0 0, .slice none 0 0]) 6 96 Tryz.underlying25 hi hq0 hq1 hq2 rfl (by omega) (.slice AA j cp) j cs (by rfl) (HOW3.out.alloc _) ⟨w3.heap.size, 0, none⟩ 1 1 [.string ⟨x.op.toArray⟩, .int .i64 x.int, .string ⟨x.text.toArray⟩, .int .i64 x.ty.kind, .slice A3 x.ty.args.length c3, .slice K3 x.kids.length k3] (by rfl) (by rfl) (World.news_of_block (cs := #[.string ⟨x.op.toArray⟩, .int .i64 x.int, .string ⟨x.text.toArray⟩, .int .i64 x.ty.kind, .slice A3 x.ty.args.length c3, .slice K3 x.kids.length k3]) (t := 27) (fr := (0, 0)) (heap_alloc_new w3 _)) (six_one _ _ _ _ _ _ _ _ _ _) (by omega) (by unfold maxLen; omega) (by omega) (by simp; omega) (w3.heap.size + 1) (by simp) ?_; intro gg cap w7 hown7 hg7 hat7 hlt7; have hP7 : w7.heap[W0.heap.size]? = some (.cells #[.string ⟨t.op.toArray⟩, .int .i64 t.int, .string ⟨t.text.toArray⟩, .int .i64 t.ty.kind, .slice A t.ty.args.length c, .slice AA j cp] 27 (0, 0)) := (hg7.block _ (by simp; omega) (fun e => by have := (HOW.out.lt _ e.symm).1; omega)).trans ((Below.heap_alloc w3 _ _ (by omega)).trans hbx3); have q7 := cell6_5 hP7; have qf7 := cell3_f hP7 5; have hl7 := cell_lt hP7)
          | fail)
         all_goals (
          have hne : ∀ k, (wr.alloc (.cells #[.string ⟨a.op.toArray⟩, .int .i64 a.int, .string ⟨a.text.toArray⟩, .int .i64 a.ty.kind, .slice A' a.ty.args.length c', .slice K' a.kids.length k'] 27)).drew.heap.size ≤ k → some k ≠ (Value.slice AA j cp).ownBlock := fun k hk e => by have := (HOW.out.lt _ e.symm).2; have h9 : (wr.alloc (.cells #[.string ⟨a.op.toArray⟩, .int .i64 a.int, .string ⟨a.text.toArray⟩, .int .i64 a.ty.kind, .slice A' a.ty.args.length c', .slice K' a.kids.length k'] 27)).heap.size ≤ k := hk; omega
          subst hx
          have HI8 := Lib.hid (SwI.next (F := swapT s q) HI.out hb3' (HT3.out.move fun b hb _ => ⟨hb.imp id fun h => ⟨by have h9 : (wr.alloc (.cells #[.string ⟨a.op.toArray⟩, .int .i64 a.int, .string ⟨a.text.toArray⟩, .int .i64 a.ty.kind, .slice A' a.ty.args.length c', .slice K' a.kids.length k'] 27)).heap.size ≤ b := h; omega, hne b h⟩, fun _ => rfl⟩) HAT.out hg7 hown7 (hat7.imp id fun h => by simpa using h))
          clear hg7 hown7 hat7 hb3' hbx3 hP7 hne
          go_wp2_with (fail)
          go_roundw
          case rel => exact ⟨j + 1, cap, some ⟨gg, 0, none⟩, _, by go_num, by omega, HI8⟩
          case measure => simp [intOf]; omega)
       · obtain rfl : j = t.kids.length := by omega
         have hjl : ¬ ((t.kids.length : Int) < (t.kids.length : Int)) := by omega
         have hbb : Below w.heap.size w wr := HB0.out.trans (hbr.mono (by have := HS0.out; omega))
         have HX2r : Hid (wr.heap[w.heap.size + 1 + 1]? = some (.cells #[.string ⟨#[]⟩, .int .i64 0, .string ⟨#[]⟩, .int .i64 0, .slice none 0 0, .slice none 0 0] 27 (0, 0))) := Lib.hid ((hbr.block _ (by have := HS0.out; omega)).trans HX2.out)
         have HTr := Lib.hid (hbr.size)
         have t0 := cell6_0 HI.out.box
         have t1 := cell6_1 HI.out.box
         have t2 := cell6_2 HI.out.box
         have t3 := cell6_3 HI.out.box
         have t4 := cell6_4 HI.out.box
         have y0 := HX2r.out
         have y1 := cell6_0 y0
         have y2 := cell6_1 y0
         have y3 := cell6_2 y0
         have y4 := cell6_3 y0
         have y5 := cell6_4 y0
         have y6 := cell6_5 y0
         have yl := cell_lt y0
         have z0 := cell3_f y0 0
         have z1 := cell3_f y0 1
         have z2 := cell3_f y0 2
         have z3 := cell3_f y0 3
         have z4 := cell3_f y0 4
         have z5 := cell3_f y0 5
         have HBB := Lib.hid hbb
         clear y0 hbb
         go_wp2_with (fail)
         have hp := put6_heap (b0 := .string ⟨t.op.toArray⟩) (b1 := .int .i64 t.int) (b2 := .string ⟨t.text.toArray⟩) (b3 := .int .i64 t.ty.kind) (b4 := .slice A t.ty.args.length c) (b5 := .slice AA t.kids.length cp) HX2r.out
         have hk6 : ∀ b, b + 1 ≠ W0.heap.size → ((((((wr.setCell ⟨w.heap.size + 1 + 1, 0, none⟩ (.string ⟨t.op.toArray⟩)).setCell ⟨w.heap.size + 1 + 1, 1, none⟩ (.int .i64 t.int)).setCell ⟨w.heap.size + 1 + 1, 2, none⟩ (.string ⟨t.text.toArray⟩)).setCell ⟨w.heap.size + 1 + 1, 3, none⟩ (.int .i64 t.ty.kind)).setCell ⟨w.heap.size + 1 + 1, 4, none⟩ (.slice A t.ty.args.length c)).setCell ⟨w.heap.size + 1 + 1, 5, none⟩ (.slice AA t.kids.length cp)).heap[b]? = wr.heap[b]? := fun b hb => set6_block (by have := HS0.out; omega)
         have HBF : Below w.heap.size w ((((((wr.setCell ⟨w.heap.size + 1 + 1, 0, none⟩ (.string ⟨t.op.toArray⟩)).setCell ⟨w.heap.size + 1 + 1, 1, none⟩ (.int .i64 t.int)).setCell ⟨w.heap.size + 1 + 1, 2, none⟩ (.string ⟨t.text.toArray⟩)).setCell ⟨w.heap.size + 1 + 1, 3, none⟩ (.int .i64 t.ty.kind)).setCell ⟨w.heap.size + 1 + 1, 4, none⟩ (.slice A t.ty.args.length c)).setCell ⟨w.heap.size + 1 + 1, 5, none⟩ (.slice AA t.kids.length cp)) := by
          have hbb := HBB.out
          repeat' (first | with_reducible assumption | with_reducible refine Below.set_own ?_ ?_ | (dsimp only; omega))
         generalize ((((((wr.setCell ⟨w.heap.size + 1 + 1, 0, none⟩ (.string ⟨t.op.toArray⟩)).setCell ⟨w.heap.size + 1 + 1, 1, none⟩ (.int .i64 t.int)).setCell ⟨w.heap.size + 1 + 1, 2, none⟩ (.string ⟨t.text.toArray⟩)).setCell ⟨w.heap.size + 1 + 1, 3, none⟩ (.int .i64 t.ty.kind)).setCell ⟨w.heap.size + 1 + 1, 4, none⟩ (.slice A t.ty.args.length c)).setCell ⟨w.heap.size + 1 + 1, 5, none⟩ (.slice AA t.kids.length cp)) = wF at *
         have p0 := cell6_0 hp
         have p1 := cell6_1 hp
         have p2 := cell6_2 hp
         have p3 := cell6_3 hp
         have p4 := cell6_4 hp
         have p5 := cell6_5 hp
         refine bodyPost_ret (v := .agg #[.string ⟨t.op.toArray⟩, .int .i64 t.int, .string ⟨t.text.toArray⟩, .int .i64 t.ty.kind, .slice A t.ty.args.length c, .slice AA t.kids.length cp]) (by simp [results, Tryz.results26, go_sem, p0, p1, p2, p3, p4, p5]) rfl ?_
         rw [HE3.out]
         refine ⟨⟨_, rfl, sw_made HI.out (by have := HS0.out; omega) (fun b _ hb => hk6 b hb) HSW.out HS0.out.symm (dt := dt) (HTY.out.move fun k hk hl => ⟨hk, fun _ => World.cell?_of_block ((hbr.block k (by have := HSW.out k hk; have := HS0.out; omega)).trans (HB0.out.block k hl))⟩)⟩, HBF⟩)
