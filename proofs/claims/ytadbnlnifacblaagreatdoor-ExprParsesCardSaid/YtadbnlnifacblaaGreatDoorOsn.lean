/-
of of the statements: a term of the document's answer.
-/
import Derived.Test.YtadbnlnifacblaaGreatDoorOf
import Derived.Test.YtadbnlnifacblaaGreatDoorLd
namespace Go.Proofs.YtadbnlnifacblaaGreatDoor
open Go.RowKit
def NarN : Nat → Nd → Prop
  | 0, _ => False
  | d + 1, n => Nar 30 n.ty ∧ n.kids.length ≤ 5000 ∧ ∀ k ∈ n.kids, NarN d k
theorem few_nar : ∀ (d : Nat) (n : Nd), FewN d n → NarN d n
  | 0, _, h => h.elim
  | d + 1, _, ⟨_, _, h2, h3, h4⟩ => ⟨h2, h3, fun k hk => few_nar d k (h4 k hk)⟩
theorem info40 : (Tryz.prog.info? 37).map (fun i => (i.zero, i.size, i.bytes)) = some (some (.agg #[.string ⟨#[]⟩, .int .i64 0, .string ⟨#[]⟩, .int .i64 0, .slice none 0 0, .slice none 0 0]), 6, 96) := by kernel_rfl
theorem cell_six_new (w : World) (a b c d e f : Value) (t : TypeId) (B : Nat) (hB : B = w.heap.size) : ∀ j u, [a, b, c, d, e, f][j]? = some u → (w.alloc (.cells #[a, b, c, d, e, f] t)).cell? ((⟨B, 0, none⟩ : Addr).add j) = some u := by
  intro j u hj
  subst hB
  have h : (w.alloc (.cells #[a, b, c, d, e, f] t)).heap[w.heap.size]? = some (.cells #[a, b, c, d, e, f] t (0, 0)) := heap_alloc_new w _
  have ha : ((⟨w.heap.size, 0, none⟩ : Addr).add j) = ⟨w.heap.size, j, none⟩ := by
    simp only [Addr.add]
    by_cases hk : j = 0 <;> simp [hk]
  rw [ha]
  rcases j with _ | _ | _ | _ | _ | _ | j
  · rw [cell6_0 h]; simpa using hj
  · rw [cell6_1 h]; simpa using hj
  · rw [cell6_2 h]; simpa using hj
  · rw [cell6_3 h]; simpa using hj
  · rw [cell6_4 h]; simpa using hj
  · rw [cell6_5 h]; simpa using hj
  · simp at hj
theorem six_one (o : ByteArray) (i : Int) (t : ByteArray) (k : Int) (A : Option Addr) (n c : Nat) (K : Option Addr) (m e : Nat) : ∀ u ∈ [Value.string o, .int .i64 i, .string t, .int .i64 k, .slice A n c, .slice K m e], u.oneCell' = true := by
  intro u hu
  simp only [List.mem_cons, List.not_mem_nil, or_false] at hu
  rcases hu with rfl | rfl | rfl | rfl | rfl | rfl <;> rfl
structure OfnInv (w : World) (t : Nd) (pv rv : Array Value) (d j : Nat) (vs : Value) (cs : List Value) (wr : World) : Prop where
  below : Below w.heap.size w wr
  size : w.heap.size + 2 ≤ wr.heap.size
  box : wr.heap[w.heap.size]? = some (.cells pv 27 (0, 0))
  res : wr.heap[w.heap.size + 1]? = some (.cells rv 37 (0, 0))
  own : wr.ownsRow (w.heap.size + 2) 37 6 vs j cs
  args : ∀ (i : Nat) (a : Nd), i < j → t.kids[i]? = some a → ∃ u0 u1 u2 u3 u4 u5, cs[i * 6]? = some u0 ∧ cs[i * 6 + 1]? = some u1 ∧ cs[i * 6 + 2]? = some u2 ∧ cs[i * 6 + 3]? = some u3 ∧ cs[i * 6 + 4]? = some u4 ∧ cs[i * 6 + 5]? = some u5 ∧ NdAt wr (fun b => w.heap.size + 2 ≤ b ∧ some b ≠ vs.ownBlock) d (.agg #[u0, u1, u2, u3, u4, u5]) a
theorem OfnInv.next {w wr w3 w7 : World} {vs v' u0 u1 u2 u3 u4 u5 : Value} {t a : Nd} {pv rv : Array Value} {d j : Nat} {cs : List Value} {o1 o2 : Obj} (h : OfnInv w t pv rv d j vs cs wr) (hb : Below (wr.alloc o1).heap.size (wr.alloc o1) w3) (hT : NdAt w3 (fun b => (wr.alloc o1).heap.size ≤ b) d (.agg #[u0, u1, u2, u3, u4, u5]) a) (ha : t.kids[j]? = some a)
    (hg : (w3.alloc o2).grownBy w7 vs.ownBlock) (hown7 : w7.ownsRow (w.heap.size + 2) 37 6 v' (j + 1) (cs ++ [u0, u1, u2, u3, u4, u5])) (hat : v'.ownBlock = vs.ownBlock ∨ v'.ownBlock = some (w3.alloc o2).heap.size) :
    OfnInv w t pv rv d (j + 1) v' (cs ++ [u0, u1, u2, u3, u4, u5]) w7 := by
  have hs := h.size
  have hs3 := hb.size
  have e1 : (wr.alloc o1).heap.size = wr.heap.size + 1 := by simp
  have e3 : (w3.alloc o2).heap.size = w3.heap.size + 1 := by simp
  have hs7 := hg.size
  have hvs : ∀ b, vs.ownBlock = some b → w.heap.size + 2 ≤ b ∧ b < wr.heap.size := h.own.lt
  have step3 : ∀ b, b < w3.heap.size → some b ≠ vs.ownBlock → w7.heap[b]? = w3.heap[b]? := fun b hl hne => by
    rw [hg.block b (by omega) hne, Below.heap_alloc _ _ _ hl]
  have stepr : ∀ b, b < wr.heap.size → some b ≠ vs.ownBlock → w7.heap[b]? = wr.heap[b]? := fun b hl hne => by
    rw [step3 b (by omega) hne, hb.block b (by omega), Below.heap_alloc _ _ _ hl]
  have ne1 : ∀ b, b < w.heap.size + 2 → some b ≠ vs.ownBlock := fun b hl e => by have := (hvs b e.symm).1; omega
  have hbw : Below w.heap.size w w7 := ((h.below.alloc (by omega) o1).trans (hb.mono (by omega))).alloc (by omega) o2 |>.grown hg (by omega) (fun k hk => by have := (hvs k hk).1; omega)
  refine ⟨hbw, by omega, ?_, ?_, hown7, fun i b hi hib => ?_⟩
  · rw [stepr _ (by omega) (ne1 _ (by omega))]; exact h.box
  · rw [stepr _ (by omega) (ne1 _ (by omega))]; exact h.res
  · have hcl : cs.length = j * 6 := h.own.1
    rcases Nat.lt_or_ge i j with hlt | hge
    · obtain ⟨x0, x1, x2, x3, x4, x5, h0, h1, h2, h3, h4, h5, h6⟩ := h.args i b hlt hib
      refine ⟨x0, x1, x2, x3, x4, x5, by rw [List.getElem?_append_left (by omega)]; exact h0, by rw [List.getElem?_append_left (by omega)]; exact h1, by rw [List.getElem?_append_left (by omega)]; exact h2, by rw [List.getElem?_append_left (by omega)]; exact h3, by rw [List.getElem?_append_left (by omega)]; exact h4, by rw [List.getElem?_append_left (by omega)]; exact h5, h6.move fun k hk hl => ⟨⟨hk.1, fun e => ?_⟩, fun _ => World.cell?_of_block (stepr k hl hk.2)⟩⟩
      rcases hat with hh | hh
      · exact hk.2 (e.trans hh)
      · rw [hh, e3] at e; injection e; omega
    · obtain rfl : i = j := by omega
      rw [ha] at hib
      injection hib with hib
      subst hib
      have nev : ∀ k, wr.heap.size + 1 ≤ k → some k ≠ vs.ownBlock := fun k hk e => by have := (hvs k e.symm).2; omega
      refine ⟨u0, u1, u2, u3, u4, u5, by rw [List.getElem?_append_right (by omega)]; simp [show i * 6 - cs.length = 0 by omega], by rw [List.getElem?_append_right (by omega)]; simp [show i * 6 + 1 - cs.length = 1 by omega], by rw [List.getElem?_append_right (by omega)]; simp [show i * 6 + 2 - cs.length = 2 by omega], by rw [List.getElem?_append_right (by omega)]; simp [show i * 6 + 3 - cs.length = 3 by omega], by rw [List.getElem?_append_right (by omega)]; simp [show i * 6 + 4 - cs.length = 4 by omega], by rw [List.getElem?_append_right (by omega)]; simp [show i * 6 + 5 - cs.length = 5 by omega], hT.move fun k hk hl => ⟨⟨by omega, fun e => ?_⟩, fun _ => World.cell?_of_block (step3 k hl (nev k (by omega)))⟩⟩
      rcases hat with hh | hh
      · rw [hh] at e; exact nev k (by omega) e
      · rw [hh, e3] at e; injection e; omega
theorem nd_made {w wr wF : World} {t : Nd} {pv rv : Array Value} {d : Nat} {A A' : Option Addr} {c c' : Nat} {cs : List Value} (h : OfnInv w t pv rv d t.kids.length (.slice A' t.kids.length c') cs wr) (hk : ∀ b, w.heap.size + 2 ≤ b → b < wr.heap.size → wF.heap[b]? = wr.heap[b]?)
    (hT : ∃ dt, TyAt wF (fun b => w.heap.size ≤ b) dt (.agg #[.int .i64 t.ty.kind, .slice A t.ty.args.length c]) t.ty) : NdAt wF (fun b => w.heap.size ≤ b) (d + 1) (.agg #[.string ⟨t.op.toArray⟩, .int .i64 t.int, .string ⟨t.text.toArray⟩, .int .i64 t.ty.kind, .slice A t.ty.args.length c, .slice A' t.kids.length c']) t := by
  have hkc : ∀ b, w.heap.size + 2 ≤ b → b < wr.heap.size → ∀ o, wF.cell? ⟨b, o, none⟩ = wr.cell? ⟨b, o, none⟩ := fun b hb hl o => World.cell?_of_block (hk b hb hl)
  have hown := h.own
  rcases hown.2 with ⟨he, h0⟩ | ⟨g, cap, cur, he, hbg, hg, hnc, _⟩
  · injection he with e1 e2 e3
    subst e1; subst e3
    exact ⟨A, c, none, 0, rfl, hT, by omega, fun hl => absurd hl (by omega)⟩
  · injection he with e1 e2 e3
    subst e1; subst e3
    have hgl := cell_lt hg
    refine ⟨A, c, _, c', rfl, hT, by omega, fun hl => ⟨g, 0, rfl, by omega, fun j a ha => ?_⟩⟩
    have hjl := (List.getElem?_eq_some_iff.1 ha).1
    obtain ⟨u0, u1, u2, u3, u4, u5, h0, h1, h2, h3, h4, h5, h6⟩ := h.args j a hjl ha
    refine ⟨u0, u1, u2, u3, u4, u5, ?_, ?_, ?_, ?_, ?_, ?_, NdAt.move (fun b hSb hbl => ⟨by have := hSb.1; show w.heap.size ≤ b; omega, hkc b hSb.1 hbl⟩) _ _ _ h6⟩
    · rw [Nat.zero_add, hkc g hbg hgl, hown.cellAt _ (by omega)]; exact h0
    · rw [Nat.zero_add, hkc g hbg hgl, hown.cellAt _ (by omega)]; exact h1
    · rw [Nat.zero_add, hkc g hbg hgl, hown.cellAt _ (by omega)]; exact h2
    · rw [Nat.zero_add, hkc g hbg hgl, hown.cellAt _ (by omega)]; exact h3
    · rw [Nat.zero_add, hkc g hbg hgl, hown.cellAt _ (by omega)]; exact h4
    · rw [Nat.zero_add, hkc g hbg hgl, hown.cellAt _ (by omega)]; exact h5
set_option maxRecDepth 100000 in
set_option maxHeartbeats 2000000 in
theorem of_any : ∀ (d n : Nat) (S : Nat → Prop) (v : Value) (t : Nd) (w : World), NarN n t → NdAt w S d v t →
    Calls Tryz.prog 15 #[v] w fun e w' => (∃ v', e = .returned v' ∧ NdAt w' (fun b => w.heap.size ≤ b) d v' t) ∧ Below w.heap.size w w'
  | 0, n, S, v, t, w, _, hT => hT.elim
  | d + 1, 0, S, v, t, w, hN, _ => hN.elim
  | d + 1, n + 1, S, v, t, w, hN, hT => by
    obtain ⟨i0, hi, hq0, hq1, hq2⟩ := info_parts info40
    obtain ⟨hnar, hlen, hall⟩ := hN
    have IH := of_any d n
    have HIH := Lib.hid IH
    have HALL := Lib.hid hall
    have HNAR := Lib.hid hnar
    obtain ⟨A, c, K, kc, rfl, ⟨dt, hty⟩, hlc, hA⟩ := hT
    have HA := Lib.hid hA
    have HTY := Lib.hid hty
    clear hA IH hall hnar hty
    go_enter Tryz.func15, Tryz.ntmps15
    go_wp2_with (fail)
    go_loopw [3, 9] (fun vs i wr => ∃ (j : Nat) (cs : List Value), i = .int .i64 j ∧ j ≤ t.kids.length ∧ OfnInv w t #[.string ⟨t.op.toArray⟩, .int .i64 t.int, .string ⟨t.text.toArray⟩, .int .i64 t.ty.kind, .slice A t.ty.args.length c, .slice K t.kids.length kc] #[.string ⟨#[]⟩, .int .i64 0, .string ⟨#[]⟩, .int .i64 0, .slice none 0 0, .slice none 0 0] d j vs cs wr) (fun _ i _ => 6000 - (intOf i).toNat)
    case atStart =>
      refine ⟨0, [], rfl, by omega, ((Below.refl _ _).alloc (Nat.le_refl _) _).alloc (by simp) _, by simp, ?_, ?_, World.ownsRow_nil _ _ _ _, fun i a hi => by omega⟩
      · rw [Below.heap_alloc _ _ _ (by simp)]; exact heap_alloc_new w _
      · exact (by simpa using heap_alloc_new (w.alloc _) _)
    case round =>
      obtain ⟨j, cs, rfl, hj, hI⟩ := hrel
      obtain ⟨vs, rfl⟩ : ∃ vs : Value, vs = u3 := ⟨_, rfl⟩
      have HI := Lib.hid hI
      have hbr := hI.below
      have hsz := hI.size
      have hb0 := hI.box
      have hb1 := hI.res
      clear hI
      by_cases hlt : j < t.kids.length
      · obtain ⟨b, o, rfl, hSb, hcells⟩ := HA.out (by omega)
        obtain ⟨a, ha⟩ : ∃ a, t.kids[j]? = some a := ⟨_, List.getElem?_eq_getElem hlt⟩
        obtain ⟨A', c', K', k', h0, h1, h2, h3, h4, h5, h6, hbl⟩ := kid_cells hcells ha
        have g0 := (hbr.cell (p := ⟨b, o + j * 6, none⟩) hbl).trans h0
        have g1 := (hbr.cell (p := ⟨b, o + j * 6 + 1, none⟩) hbl).trans h1
        have g2 := (hbr.cell (p := ⟨b, o + j * 6 + 2, none⟩) hbl).trans h2
        have g3 := (hbr.cell (p := ⟨b, o + j * 6 + 3, none⟩) hbl).trans h3
        have g4 := (hbr.cell (p := ⟨b, o + j * 6 + 4, none⟩) hbl).trans h4
        have g5 := (hbr.cell (p := ⟨b, o + j * 6 + 5, none⟩) hbl).trans h5
        have HAT := Lib.hid ha
        have H2 := Lib.hid ((h6.below hbr).below ((Below.refl wr.heap.size wr).alloc (Nat.le_refl _) (.cells #[.string ⟨a.op.toArray⟩, .int .i64 a.int, .string ⟨a.text.toArray⟩, .int .i64 a.ty.kind, .slice A' a.ty.args.length c', .slice K' a.kids.length k'] 27)))
        have HNA := Lib.hid (HALL.out a (List.mem_of_getElem? ha))
        clear h0 h1 h2 h3 h4 h5 h6 ha hcells hb0 hb1
        go_wp2_with (fail)
        refine (HIH.out S _ a _ HNA.out H2.out).mono ?_
        rintro e w3 ⟨⟨v3, rfl, hT3⟩, hb3⟩
        obtain ⟨A3, c3, K3, k3, rfl⟩ := hT3.form
        have HT3 := Lib.hid hT3
        have hs3 := hb3.size
        have hown3 := HI.out.own.kept (row := none) ⟨hb3.os, hb3.tape, hb3.output, by have := hb3.size; simp at this; omega, fun k hk _ => (hb3.block k (by simp; omega)).trans (Below.heap_alloc wr _ k hk)⟩ (by cases hv : vs.ownBlock <;> simp)
        clear hT3 g0 g1 g2 g3 g4 g5
        simp only [World.size_alloc] at hs3
        go_wp2_with (at_builtin; refine wpList_append_own_at _ rfl _ _ 35 rfl (w.heap.size + 2) 37 i0 (.agg #[.string ⟨#[]⟩, .int .i64 0, .string ⟨#[]⟩, .int .i64 0, .slice none 0 0, .slice none 0 0]) 6 96 Tryz.underlying35 hi hq0 hq1 hq2 rfl (by decide) vs j cs rfl (hown3.alloc _) ⟨w3.heap.size, 0, none⟩ 1 1 [.string ⟨a.op.toArray⟩, .int .i64 a.int, .string ⟨a.text.toArray⟩, .int .i64 a.ty.kind, .slice A3 a.ty.args.length c3, .slice K3 a.kids.length k3] rfl rfl (cell_six_new _ _ _ _ _ _ _ _ _ rfl) (six_one _ _ _ _ _ _ _ _ _ _) (by unfold maxLen; omega) (by omega) (by simp; omega) ?_; intro v' w7 hown7 hgrow7 _ hat7)
        go_roundw
        case rel => exact ⟨j + 1, _, by go_num, by omega, OfnInv.next HI.out hb3 HT3.out HAT.out hgrow7 hown7 hat7⟩
        case measure => simp [intOf]; omega
      · obtain rfl : j = t.kids.length := by omega
        have hO := HI.out
        obtain ⟨A', c', rfl⟩ := own_slice hO.own
        have b0 := cell6_0 hb0
        have b1 := cell6_1 hb0
        have b2 := cell6_2 hb0
        have b3 := cell6_3 hb0
        have b4 := cell6_4 hb0
        have hbx := cell_lt hb0
        have HB0 := Lib.hid hb0
        have HR0 := Lib.hid hb1
        have HBR := Lib.hid hbr
        have hRR : Below wr.heap.size wr wr := Below.refl _ _
        have HT0 := Lib.hid (HTY.out.below hbr)
        clear hO hb0 hb1
        go_wp2_with (fail)
        go_region_held3 (fun w' => w'.cell? ⟨w.heap.size, 0, none⟩ = some (.string ⟨t.op.toArray⟩) ∧ w'.cell? ⟨w.heap.size, 1, none⟩ = some (.int .i64 t.int) ∧ w'.cell? ⟨w.heap.size, 2, none⟩ = some (.string ⟨t.text.toArray⟩) ∧ w'.cell? ⟨w.heap.size, 3, none⟩ = some (.int .i64 t.ty.kind) ∧ w'.cell? ⟨w.heap.size, 4, none⟩ = some (.slice A t.ty.args.length c) ∧ Below w.heap.size w w')
          ((refine ⟨?_, ?_, ?_, ?_, ?_, ?_⟩ <;> (repeat' (first | with_reducible assumption | with_reducible refine cell_drew_some ?_ | with_reducible refine cell_set_some ?_ ?_ | with_reducible refine Below.drew ?_ | with_reducible refine Below.set_own ?_ ?_ | (dsimp only; omega)))))
          (first
            | (go_at_call 47; refine (typ_any dt 30 _ _ t.ty wr.drew HNAR.out (HT0.out.below (Below.refl _ _).drew)).mono ?_; rintro e w3 ⟨⟨v3, rfl, hT3⟩, hb3⟩; obtain ⟨A3, c3, rfl⟩ := hT3.form; have HT3 := Lib.hid hT3; have HB3 : Below wr.heap.size wr w3 := (Below.refl _ wr).drew.trans hb3; have KB3 : Below w.heap.size w w3 := hbr.trans (HB3.mono hbr.size); clear hT3; have x0 := (HB3.cell (p := ⟨w.heap.size, 0, none⟩) hbx).trans b0; have x1 := (HB3.cell (p := ⟨w.heap.size, 1, none⟩) hbx).trans b1; have x2 := (HB3.cell (p := ⟨w.heap.size, 2, none⟩) hbx).trans b2; have x3 := (HB3.cell (p := ⟨w.heap.size, 3, none⟩) hbx).trans b3; have x4 := (HB3.cell (p := ⟨w.heap.size, 4, none⟩) hbx).trans b4; have y := (HB3.block (w.heap.size + 1) (by omega)).trans HR0.out; have y0 := cell6_0 y; have y1 := cell6_1 y; have y2 := cell6_2 y; have y3 := cell6_3 y; have y4 := cell6_4 y; have y5 := cell6_5 y; have z0 := cell3_f y 0; have z1 := cell3_f y 1; have z2 := cell3_f y 2; have z3 := cell3_f y 3; have z4 := cell3_f y 4; have z5 := cell3_f y 5))
        go_wp2_with (fail)
        have hs3 := HB3.size
        have hp := put6_heap (b0 := .string ⟨t.op.toArray⟩) (b1 := .int .i64 t.int) (b2 := .string ⟨t.text.toArray⟩) (b3 := .int .i64 t.ty.kind) (b4 := .slice A3 t.ty.args.length c3) (b5 := .slice A' t.kids.length c') y
        have hk6 : ∀ b, b ≠ w.heap.size + 1 → ((((((w3.setCell ⟨w.heap.size + 1, 0, none⟩ (.string ⟨t.op.toArray⟩)).setCell ⟨w.heap.size + 1, 1, none⟩ (.int .i64 t.int)).setCell ⟨w.heap.size + 1, 2, none⟩ (.string ⟨t.text.toArray⟩)).setCell ⟨w.heap.size + 1, 3, none⟩ (.int .i64 t.ty.kind)).setCell ⟨w.heap.size + 1, 4, none⟩ (.slice A3 t.ty.args.length c3)).setCell ⟨w.heap.size + 1, 5, none⟩ (.slice A' t.kids.length c')).heap[b]? = w3.heap[b]? := fun b hb => set6_block hb
        have HBF : Below w.heap.size w ((((((w3.setCell ⟨w.heap.size + 1, 0, none⟩ (.string ⟨t.op.toArray⟩)).setCell ⟨w.heap.size + 1, 1, none⟩ (.int .i64 t.int)).setCell ⟨w.heap.size + 1, 2, none⟩ (.string ⟨t.text.toArray⟩)).setCell ⟨w.heap.size + 1, 3, none⟩ (.int .i64 t.ty.kind)).setCell ⟨w.heap.size + 1, 4, none⟩ (.slice A3 t.ty.args.length c3)).setCell ⟨w.heap.size + 1, 5, none⟩ (.slice A' t.kids.length c')) := by
          repeat' (first | with_reducible assumption | with_reducible refine Below.set_own ?_ ?_ | (dsimp only; omega))
        generalize (((((w3.setCell ⟨w.heap.size + 1, 0, none⟩ (.string ⟨t.op.toArray⟩)).setCell ⟨w.heap.size + 1, 1, none⟩ (.int .i64 t.int)).setCell ⟨w.heap.size + 1, 2, none⟩ (.string ⟨t.text.toArray⟩)).setCell ⟨w.heap.size + 1, 3, none⟩ (.int .i64 t.ty.kind)).setCell ⟨w.heap.size + 1, 4, none⟩ (.slice A3 t.ty.args.length c3)).setCell ⟨w.heap.size + 1, 5, none⟩ (.slice A' t.kids.length c') = wF at *
        have p0 := cell6_0 hp
        have p1 := cell6_1 hp
        have p2 := cell6_2 hp
        have p3 := cell6_3 hp
        have p4 := cell6_4 hp
        have p5 := cell6_5 hp
        refine bodyPost_ret (v := .agg #[.string ⟨t.op.toArray⟩, .int .i64 t.int, .string ⟨t.text.toArray⟩, .int .i64 t.ty.kind, .slice A3 t.ty.args.length c3, .slice A' t.kids.length c']) (by simp [results, Tryz.results15, go_sem, p0, p1, p2, p3, p4, p5]) rfl ?_
        refine ⟨⟨_, rfl, nd_made HI.out (fun b hb hl => (hk6 b (by omega)).trans (HB3.block b hl)) ⟨dt, HT3.out.move fun b hb _ => ⟨by have hbb : wr.heap.size ≤ b := hb; show w.heap.size ≤ b; omega, fun _ => World.cell?_of_block (hk6 b (by have hbb : wr.heap.size ≤ b := hb; omega))⟩⟩⟩, HBF⟩
end Go.Proofs.YtadbnlnifacblaaGreatDoor
namespace Go.Proofs.YtadbnlnifacblaaGreatDoor
open Go.RowKit
theorem nd_ext {a b : Nd} (h0 : a.op = b.op) (h1 : a.int = b.int) (h2 : a.text = b.text) (h3 : a.ty = b.ty) (h4 : a.kids = b.kids) : a = b := by
  cases a; cases b
  simp only [Nd.op, Nd.int, Nd.text, Nd.ty, Nd.kids] at *
  subst h0; subst h1; subst h2; subst h3; subst h4; rfl
set_option maxRecDepth 100000 in
set_option maxHeartbeats 2000000 in
theorem same_any : ∀ (d d' n : Nat) (S S' : Nat → Prop) (v v' : Value) (a b : Nd) (w : World), NarN n a → NdAt w S d v a → NdAt w S' d' v' b →
    Calls Tryz.prog 14 #[v, v'] w fun e w' => (∃ q : Bool, e = .returned (.bool q) ∧ (q = true ↔ a = b)) ∧ Below w.heap.size w w'
  | 0, d', n, S, S', v, v', a, b, w, _, hT, _ => hT.elim
  | d + 1, 0, n, S, S', v, v', a, b, w, _, _, hT' => hT'.elim
  | d + 1, d' + 1, 0, S, S', v, v', a, b, w, hN, _, _ => hN.elim
  | d + 1, d' + 1, n + 1, S, S', v, v', a, b, w, hN, hT, hT' => by
    obtain ⟨hnar, hlen, hall⟩ := hN
    have IH := same_any d d' n
    have HIH := Lib.hid IH
    have HALL := Lib.hid hall
    have HNAR := Lib.hid hnar
    obtain ⟨A, c, K, k, rfl, ⟨dt, hty⟩, hlk, hA⟩ := hT
    obtain ⟨A', c', K', k', rfl, ⟨dt', hty'⟩, hlk', hA'⟩ := hT'
    have HA := Lib.hid hA
    have HA' := Lib.hid hA'
    have HTY := Lib.hid hty
    have HTY' := Lib.hid hty'
    clear hA hA' IH hall hnar hty hty'
    rcases (Decidable.em (a.op = b.op)).symm with ho | ho
    · have g0 : (a.op == b.op) = false := by simp [ho]
      have HF : Hid (a ≠ b) := fun e => ho (by rw [e])
      clear ho
      go_enter Tryz.func14, Tryz.ntmps14
      go_wp2_with (fail)
      go_ret
      exact ⟨⟨false, rfl, by simp; exact HF.out⟩, ((Below.refl w.heap.size w).alloc (Nat.le_refl _) _).alloc (by simp) _⟩
    have g0 : (a.op == b.op) = true := by simp [ho]
    have HO := Lib.hid ho
    clear ho
    rcases (Decidable.em (a.int = b.int)).symm with hi | hi
    · have g1 : (a.int != b.int) = true := by simp [hi]
      have HF : Hid (a ≠ b) := fun e => hi (by rw [e])
      clear hi
      go_enter Tryz.func14, Tryz.ntmps14
      go_wp2_with (fail)
      go_ret
      exact ⟨⟨false, rfl, by simp; exact HF.out⟩, ((Below.refl w.heap.size w).alloc (Nat.le_refl _) _).alloc (by simp) _⟩
    have g1 : (a.int != b.int) = false := by simp [hi]
    have HII := Lib.hid hi
    clear hi
    rcases (Decidable.em (a.text = b.text)).symm with ht | ht
    · have g2 : (a.text == b.text) = false := by simp [ht]
      have HF : Hid (a ≠ b) := fun e => ht (by rw [e])
      clear ht
      go_enter Tryz.func14, Tryz.ntmps14
      go_wp2_with (fail)
      go_ret
      exact ⟨⟨false, rfl, by simp; exact HF.out⟩, ((Below.refl w.heap.size w).alloc (Nat.le_refl _) _).alloc (by simp) _⟩
    have g2 : (a.text == b.text) = true := by simp [ht]
    have HTT := Lib.hid ht
    clear ht
    have hb2 := ((Below.refl w.heap.size w).alloc (Nat.le_refl _) (.cells #[.string ⟨a.op.toArray⟩, .int .i64 a.int, .string ⟨a.text.toArray⟩, .int .i64 a.ty.kind, .slice A a.ty.args.length c, .slice K a.kids.length k] 37)).alloc (by simp) (.cells #[.string ⟨b.op.toArray⟩, .int .i64 b.int, .string ⟨b.text.toArray⟩, .int .i64 b.ty.kind, .slice A' b.ty.args.length c', .slice K' b.kids.length k'] 37)
    have HX0 : Hid (((w.alloc (.cells #[.string ⟨a.op.toArray⟩, .int .i64 a.int, .string ⟨a.text.toArray⟩, .int .i64 a.ty.kind, .slice A a.ty.args.length c, .slice K a.kids.length k] 37)).alloc (.cells #[.string ⟨b.op.toArray⟩, .int .i64 b.int, .string ⟨b.text.toArray⟩, .int .i64 b.ty.kind, .slice A' b.ty.args.length c', .slice K' b.kids.length k'] 37)).heap[w.heap.size]? = some (.cells #[.string ⟨a.op.toArray⟩, .int .i64 a.int, .string ⟨a.text.toArray⟩, .int .i64 a.ty.kind, .slice A a.ty.args.length c, .slice K a.kids.length k] 37 (0, 0))) := (Below.heap_alloc _ _ _ (by simp)).trans (heap_alloc_new w _)
    have HX1 : Hid (((w.alloc (.cells #[.string ⟨a.op.toArray⟩, .int .i64 a.int, .string ⟨a.text.toArray⟩, .int .i64 a.ty.kind, .slice A a.ty.args.length c, .slice K a.kids.length k] 37)).alloc (.cells #[.string ⟨b.op.toArray⟩, .int .i64 b.int, .string ⟨b.text.toArray⟩, .int .i64 b.ty.kind, .slice A' b.ty.args.length c', .slice K' b.kids.length k'] 37)).heap[w.heap.size + 1]? = some (.cells #[.string ⟨b.op.toArray⟩, .int .i64 b.int, .string ⟨b.text.toArray⟩, .int .i64 b.ty.kind, .slice A' b.ty.args.length c', .slice K' b.kids.length k'] 37 (0, 0))) := heap_new_at (by simp)
    have hz2 : ((w.alloc (.cells #[.string ⟨a.op.toArray⟩, .int .i64 a.int, .string ⟨a.text.toArray⟩, .int .i64 a.ty.kind, .slice A a.ty.args.length c, .slice K a.kids.length k] 37)).alloc (.cells #[.string ⟨b.op.toArray⟩, .int .i64 b.int, .string ⟨b.text.toArray⟩, .int .i64 b.ty.kind, .slice A' b.ty.args.length c', .slice K' b.kids.length k'] 37)).heap.size = w.heap.size + 2 := by simp
    have hts := tsame_any dt dt' 30 _ _ _ _ a.ty b.ty ((w.alloc (.cells #[.string ⟨a.op.toArray⟩, .int .i64 a.int, .string ⟨a.text.toArray⟩, .int .i64 a.ty.kind, .slice A a.ty.args.length c, .slice K a.kids.length k] 37)).alloc (.cells #[.string ⟨b.op.toArray⟩, .int .i64 b.int, .string ⟨b.text.toArray⟩, .int .i64 b.ty.kind, .slice A' b.ty.args.length c', .slice K' b.kids.length k'] 37)) HNAR.out (HTY.out.move fun x _ hl => ⟨(trivial : (fun _ => True) x), fun _ => World.cell?_of_block (hb2.block x hl)⟩) (HTY'.out.move fun x _ hl => ⟨(trivial : (fun _ => True) x), fun _ => World.cell?_of_block (hb2.block x hl)⟩)
    have HTS := Lib.hid hts
    clear hts
    go_enter Tryz.func14, Tryz.ntmps14
    go_wp2_with (fail)
    refine HTS.out.mono ?_
    clear HTS
    rintro e w3 ⟨⟨q, rfl, hq⟩, hb3⟩
    have hs3 := hb3.size
    have HB3 := Lib.hid (hb2.trans (hb3.mono (by omega)))
    have HX3 := Lib.hid (below_at hb3 HX0.out)
    have HY3 := Lib.hid (below_at hb3 HX1.out)
    have HQ := Lib.hid hq
    clear hq hb3 HX0 HX1 hb2
    cases q with
    | false =>
      go_wp2_with (fail)
      go_ret
      exact ⟨⟨false, rfl, by simp; exact fun e => absurd (HQ.out.2 (by rw [e])) (by simp)⟩, HB3.out⟩
    | true =>
    have x5 := cell6_5 HX3.out
    have y5 := cell6_5 HY3.out
    have xl := cell_lt HX3.out
    have yl := cell_lt HY3.out
    rcases (Decidable.em (a.kids.length = b.kids.length)).symm with hl | hl
    · have g3 : ((a.kids.length : Int) != (b.kids.length : Int)) = true := by simp; omega
      have HF : Hid (a ≠ b) := fun e => hl (by rw [e])
      clear hl
      go_wp2_with (fail)
      go_ret
      exact ⟨⟨false, rfl, by simp; exact HF.out⟩, HB3.out⟩
    have g3 : ((a.kids.length : Int) != (b.kids.length : Int)) = false := by simp [hl]
    have HL := Lib.hid hl
    clear hl
    go_wp2_with (fail)
    go_loopw [5] (fun i wr => ∃ j : Nat, i = .int .i64 j ∧ j ≤ a.kids.length ∧ Hid (a.kids.take j = b.kids.take j) ∧ Hid (Below w.heap.size w wr) ∧ Hid (wr.heap[w.heap.size]? = some (.cells #[.string ⟨a.op.toArray⟩, .int .i64 a.int, .string ⟨a.text.toArray⟩, .int .i64 a.ty.kind, .slice A a.ty.args.length c, .slice K a.kids.length k] 37 (0, 0))) ∧ Hid (wr.heap[w.heap.size + 1]? = some (.cells #[.string ⟨b.op.toArray⟩, .int .i64 b.int, .string ⟨b.text.toArray⟩, .int .i64 b.ty.kind, .slice A' b.ty.args.length c', .slice K' b.kids.length k'] 37 (0, 0)))) (fun i _ => 6000 - (intOf i).toNat)
    case atStart => exact ⟨0, rfl, by omega, rfl, HB3, HX3, HY3⟩
    case round =>
      obtain ⟨j, rfl, hj, HE, HBR, HX, HY⟩ := hrel
      clear x5 y5 xl yl
      have x5 := cell6_5 HX.out
      have y5 := cell6_5 HY.out
      have xl := cell_lt HX.out
      have yl := cell_lt HY.out
      have hsz := HBR.out.size
      rcases Nat.lt_or_ge j a.kids.length with hlt | hge
      · have hltm : j < b.kids.length := by have := HL.out; omega
        obtain ⟨b1, o, rfl, hSb, hcells⟩ := HA.out (by omega)
        obtain ⟨b2, o', rfl, hSb', hcells'⟩ := HA'.out (by omega)
        obtain ⟨x, hx⟩ : ∃ x, a.kids[j]? = some x := ⟨_, List.getElem?_eq_getElem hlt⟩
        obtain ⟨y, hy⟩ : ∃ y, b.kids[j]? = some y := ⟨_, List.getElem?_eq_getElem hltm⟩
        obtain ⟨A1, c1, K1, k1, h0, h1, h2, h3, h4, h5, h6, hbl⟩ := kid_cells hcells hx
        obtain ⟨A2, c2, K2, k2, h0', h1', h2', h3', h4', h5', h6', hbl'⟩ := kid_cells hcells' hy
        have g0 := (HBR.out.cell (p := ⟨b1, o + j * 6, none⟩) hbl).trans h0
        have g1 := (HBR.out.cell (p := ⟨b1, o + j * 6 + 1, none⟩) hbl).trans h1
        have g2 := (HBR.out.cell (p := ⟨b1, o + j * 6 + 2, none⟩) hbl).trans h2
        have g3 := (HBR.out.cell (p := ⟨b1, o + j * 6 + 3, none⟩) hbl).trans h3
        have g4 := (HBR.out.cell (p := ⟨b1, o + j * 6 + 4, none⟩) hbl).trans h4
        have g5 := (HBR.out.cell (p := ⟨b1, o + j * 6 + 5, none⟩) hbl).trans h5
        have g0' := (HBR.out.cell (p := ⟨b2, o' + j * 6, none⟩) hbl').trans h0'
        have g1' := (HBR.out.cell (p := ⟨b2, o' + j * 6 + 1, none⟩) hbl').trans h1'
        have g2' := (HBR.out.cell (p := ⟨b2, o' + j * 6 + 2, none⟩) hbl').trans h2'
        have g3' := (HBR.out.cell (p := ⟨b2, o' + j * 6 + 3, none⟩) hbl').trans h3'
        have g4' := (HBR.out.cell (p := ⟨b2, o' + j * 6 + 4, none⟩) hbl').trans h4'
        have g5' := (HBR.out.cell (p := ⟨b2, o' + j * 6 + 5, none⟩) hbl').trans h5'
        have H2 := Lib.hid (h6.below HBR.out)
        have H2' := Lib.hid (h6'.below HBR.out)
        have HNA := Lib.hid (HALL.out x (List.mem_of_getElem? hx))
        have HXX := Lib.hid hx
        have HYY := Lib.hid hy
        clear h0 h1 h2 h3 h4 h5 h6 h0' h1' h2' h3' h4' h5' h6' hx hy hcells hcells'
        go_wp2_with (fail)
        refine wp_region_still_tail 10 (by kernel_rfl) (by kernel_rfl) ?_
        simp only [List.take_succ_cons, List.take_zero, List.drop_succ_cons, List.drop_zero]
        change wpStill _ _ (World.drew _) _ _ _
        repeat still_step
        refine wpStill_nil ?_
        change wpList _ _ _ _ _ (World.drew _)
        go_wp2_with (fail)
        refine (HIH.out S S' _ _ x y (wr.drew) HNA.out (H2.out.below (Below.refl wr.heap.size wr).drew) (H2'.out.below (Below.refl wr.heap.size wr).drew)).mono ?_
        rintro e w4 ⟨⟨q, rfl, hq⟩, hb4⟩
        have hb4' : Below wr.heap.size wr w4 := (Below.refl wr.heap.size wr).drew.trans hb4
        have HB4 := Lib.hid (HBR.out.trans (hb4'.mono hsz))
        have HX4 := Lib.hid (below_at hb4' HX.out)
        have HY4 := Lib.hid (below_at hb4' HY.out)
        have HQ2 := Lib.hid hq
        clear hq hb4 hb4' g0 g1 g2 g3 g4 g5 g0' g1' g2' g3' g4' g5'
        cases q with
        | false =>
          go_wp2_with (fail)
          go_ret
          exact ⟨⟨false, rfl, by simp; exact fun e => absurd (HQ2.out.2 (by have h := HXX.out; rw [e, HYY.out] at h; injection h with h; exact h.symm)) (by simp)⟩, HB4.out⟩
        | true =>
          have HF2 : Hid (a.kids.take (j + 1) = b.kids.take (j + 1)) := by show _ = _; rw [List.take_add_one, List.take_add_one, HE.out, HXX.out, HYY.out, HQ2.out.1 rfl]
          go_wp2_with (fail)
          go_roundw
          case rel => exact ⟨j + 1, by go_num, by omega, HF2, HB4, HX4, HY4⟩
          case measure => simp [intOf]; omega
      · have HF2 : Hid (a.kids = b.kids) := by
          have h := HE.out
          rwa [List.take_of_length_le (by omega), List.take_of_length_le (by have := HL.out; omega)] at h
        have hjl : ¬ ((j : Int) < (a.kids.length : Int)) := by omega
        go_wp2_with (fail)
        go_ret
        exact ⟨.inr ⟨rfl, nd_ext HO.out HII.out HTT.out (HQ.out.1 (by simp)) HF2.out⟩, HBR.out⟩
end Go.Proofs.YtadbnlnifacblaaGreatDoor
