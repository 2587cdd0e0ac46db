/-
flat, typ, down of the statements (of stages 4 and 5).
-/
import Derived.Test.YtllnamhgnbdkmaaGreatDoorJa
import Derived.ProofKit
import Derived.DataReads
set_option linter.unusedVariables false
set_option linter.unusedSimpArgs false
namespace Go.Proofs.YtllnamhgnbdkmaaGreatDoor.Lw
open Go.ChangeShapes Go.WideShapes Go.RowKit
theorem cellsK3 : Tryz.prog.cellsOf 3 = 1 := by kernel_rfl
def Nar : Nat → Ty → Prop
  | 0, _ => False
  | d + 1, t => t.args.length ≤ 5000 ∧ ∀ a ∈ t.args, Nar d a
def SmOut (dep : Nat) (t : Ty) (l : Int) (L : Nat) (e : Ending) (w' : World) : Prop :=
  ∃ (b : Bool) (l' : Int), e = .returned (.bool b) ∧ w'.heap[L]? = some (.cells #[.int .i64 l'] 3 (0, 0)) ∧ l' < l ∧ -1 ≤ l' ∧ (b = true → 0 ≤ l' ∧ Nar dep t)
theorem info37 : (Tryz.prog.info? 45).map (fun i => (i.zero, i.size, i.bytes)) = some (some (.agg #[.int .i64 0, .slice none 0 0]), 2, 32) := by kernel_rfl
theorem ty_made_e {r i base : Nat} {lo : Nat} {kd : Int} {acc : List Ty} {vs : Value} {cs : List Value} {S : Nat → Prop} {wr wF : World} {te : TypeId} (hcs : wr.ownsRow base te 2 vs i cs) (hlen : acc.length = i)
    (hargs : ∀ (j : Nat) (a : Ty), acc[j]? = some a → ∃ u0 u1, cs[j * 2]? = some u0 ∧ cs[j * 2 + 1]? = some u1 ∧ TyAt wr S r (.agg #[u0, u1]) a) (hS : ∀ b, S b → base ≤ b)
    (hlo : lo ≤ base) (hk : ∀ b, base ≤ b → b < wr.heap.size → wF.heap[b]? = wr.heap[b]?) : TyAt wF (fun b => lo ≤ b) (r + 1) (.agg #[.int .i64 kd, vs]) (.mk kd acc) := by
  have hkc : ∀ b, base ≤ b → b < wr.heap.size → ∀ o, wF.cell? ⟨b, o, none⟩ = wr.cell? ⟨b, o, none⟩ := fun b hb hl o => World.cell?_of_block (hk b hb hl)
  rcases hcs.2 with ⟨rfl, h0⟩ | ⟨g, cap, cur, rfl, hbg, hg, hnc, _⟩
  · have ha : acc.length = 0 := by omega
    refine ⟨none, 0, ?_, by show acc.length ≤ 0; omega, fun hl => ?_⟩
    · show _ = Value.agg #[.int .i64 kd, .slice none acc.length 0]
      rw [ha]
    · have hl' : 0 < acc.length := hl
      omega
  · have hgl := cell_lt hg
    refine ⟨some ⟨g, 0, none⟩, cap, ?_, by show acc.length ≤ cap; omega, fun hl => ⟨g, 0, rfl, by omega, fun j a ha => ?_⟩⟩
    · show _ = Value.agg #[.int .i64 kd, .slice (some ⟨g, 0, none⟩) acc.length cap]
      rw [hlen]
    · have ha' : acc[j]? = some a := ha
      obtain ⟨u0, u1, h0, h1, h2⟩ := hargs j a ha'
      have hjl := (List.getElem?_eq_some_iff.1 ha').1
      refine ⟨u0, u1, ?_, ?_, TyAt.move (fun b hSb hbl => ⟨by have := hS b hSb; omega, hkc b (hS b hSb) hbl⟩) _ _ _ h2⟩
      · rw [Nat.zero_add, hkc g hbg hgl, hcs.cellAt _ (by omega)]; exact h0
      · rw [Nat.zero_add, hkc g hbg hgl, hcs.cellAt _ (by omega)]; exact h1
structure OfInv (w : World) (v0 : Value) (t : Ty) (kd : Int) (d j : Nat) (vs : Value) (cs : List Value) (wr : World) : Prop where
  below : Below w.heap.size w wr
  size : w.heap.size + 2 ≤ wr.heap.size
  box : wr.heap[w.heap.size]? = some (.cells #[.int .i64 kd, v0] 64 (0, 0))
  res : wr.heap[w.heap.size + 1]? = some (.cells #[.int .i64 0, .slice none 0 0] 45 (0, 0))
  own : wr.ownsRow (w.heap.size + 2) 45 2 vs j cs
  args : ∀ (i : Nat) (a : Ty), i < j → t.args[i]? = some a → ∃ u0 u1, cs[i * 2]? = some u0 ∧ cs[i * 2 + 1]? = some u1 ∧ TyAt wr (fun b => w.heap.size + 2 ≤ b ∧ some b ≠ vs.ownBlock) d (.agg #[u0, u1]) a
theorem OfInv.next {w wr w3 w7 : World} {v0 vs v' u0 u1 : Value} {t a : Ty} {kd : Int} {d j : Nat} {cs : List Value} {o1 o2 : Obj} (h : OfInv w v0 t kd d j vs cs wr) (hb : Below (wr.alloc o1).heap.size (wr.alloc o1) w3) (hT : TyAt w3 (fun b => (wr.alloc o1).heap.size ≤ b) d (.agg #[u0, u1]) a) (ha : t.args[j]? = some a)
    (hg : (w3.alloc o2).grownBy w7 vs.ownBlock) (hown7 : w7.ownsRow (w.heap.size + 2) 45 2 v' (j + 1) (cs ++ [u0, u1])) (hat : v'.ownBlock = vs.ownBlock ∨ v'.ownBlock = some (w3.alloc o2).heap.size) :
    OfInv w v0 t kd d (j + 1) v' (cs ++ [u0, u1]) w7 := by
  have hs := h.size
  have hs3 := hb.size
  have e1 : (wr.alloc o1).heap.size = wr.heap.size + 1 := by simp
  have e3 : (w3.alloc o2).heap.size = w3.heap.size + 1 := by simp
  have hs7 := hg.size
  have hvs : ∀ b, vs.ownBlock = some b → w.heap.size + 2 ≤ b ∧ b < wr.heap.size := h.own.lt
  have step3 : ∀ b, b < w3.heap.size → some b ≠ vs.ownBlock → w7.heap[b]? = w3.heap[b]? := fun b hl hne => by
    rw [hg.block b (by omega) hne, Below.heap_alloc _ _ _ hl]
  have stepr : ∀ b, b < wr.heap.size → some b ≠ vs.ownBlock → w7.heap[b]? = wr.heap[b]? := fun b hl hne => by
    rw [step3 b (by omega) hne, hb.block b (by omega), Below.heap_alloc _ _ _ hl]
  have ne1 : ∀ b, b < w.heap.size + 2 → some b ≠ vs.ownBlock := fun b hl e => by have := (hvs b e.symm).1; omega
  have hbw : Below w.heap.size w w7 := ((h.below.alloc (by omega) o1).trans (hb.mono (by omega))).alloc (by omega) o2 |>.grown hg (by omega) (fun k hk => by have := (hvs k hk).1; omega)
  refine ⟨hbw, by omega, ?_, ?_, hown7, fun i b hi hib => ?_⟩
  · rw [stepr _ (by omega) (ne1 _ (by omega))]; exact h.box
  · rw [stepr _ (by omega) (ne1 _ (by omega))]; exact h.res
  · have hcl : cs.length = j * 2 := h.own.1
    rcases Nat.lt_or_ge i j with hlt | hge
    · obtain ⟨x0, x1, h0, h1, h2⟩ := h.args i b hlt hib
      refine ⟨x0, x1, by rw [List.getElem?_append_left (by omega)]; exact h0, by rw [List.getElem?_append_left (by omega)]; exact h1, h2.move fun k hk hl => ⟨⟨hk.1, fun e => ?_⟩, fun _ => World.cell?_of_block (stepr k hl hk.2)⟩⟩
      rcases hat with hh | hh
      · exact hk.2 (e.trans hh)
      · rw [hh, e3] at e; injection e; omega
    · obtain rfl : i = j := by omega
      rw [ha] at hib
      injection hib with hib
      subst hib
      have nev : ∀ k, wr.heap.size + 1 ≤ k → some k ≠ vs.ownBlock := fun k hk e => by have := (hvs k e.symm).2; omega
      refine ⟨u0, u1, by rw [List.getElem?_append_right (by omega)]; simp [show i * 2 - cs.length = 0 by omega], by rw [List.getElem?_append_right (by omega)]; simp [show i * 2 + 1 - cs.length = 1 by omega], hT.move fun k hk hl => ⟨⟨by omega, fun e => ?_⟩, fun _ => World.cell?_of_block (step3 k hl (nev k (by omega)))⟩⟩
      rcases hat with hh | hh
      · rw [hh] at e; exact nev k (by omega) e
      · rw [hh, e3] at e; injection e; omega
set_option maxRecDepth 100000 in
set_option maxHeartbeats 1000000 in
theorem typ_any : ∀ (d n : Nat) (S : Nat → Prop) (v : Value) (t : Ty) (w : World), Nar n t → TyAt w S d v t →
    Calls Tryz.prog 53 #[v] w fun e w' => (∃ v', e = .returned v' ∧ TyAt w' (fun b => w.heap.size ≤ b) d v' t) ∧ Below w.heap.size w w'
  | 0, n, S, v, t, w, _, hT => hT.elim
  | d + 1, 0, S, v, t, w, hN, _ => hN.elim
  | d + 1, n + 1, S, v, t, w, hN, hT => by
    obtain ⟨i0, hi, hq0, hq1, hq2⟩ := info_parts info37
    obtain ⟨hlen, hall⟩ := hN
    have IH := typ_any d n
    have HIH := Lib.hid IH
    have HALL := Lib.hid hall
    have HT := Lib.hid hT
    obtain ⟨A, c, rfl, hlc, hA⟩ := hT
    have HA := Lib.hid hA
    clear hA IH hall
    go_enter Tryz.func53, Tryz.ntmps53
    go_wp2_with (fail)
    go_loopw [3, 9] (fun vs i wr => ∃ (j : Nat) (cs : List Value), i = .int .i64 j ∧ j ≤ t.args.length ∧ OfInv w (.slice A t.args.length c) t t.kind d j vs cs wr) (fun _ i _ => 6000 - (intOf i).toNat)
    case atStart =>
      refine ⟨0, [], rfl, by omega, ((Below.refl _ _).alloc (Nat.le_refl _) _).alloc (by simp) _, by simp, ?_, ?_, World.ownsRow_nil _ _ _ _, fun i a hi => by omega⟩
      · rw [Below.heap_alloc _ _ _ (by simp)]; exact heap_alloc_new w _
      · exact (by simpa using heap_alloc_new (w.alloc _) _)
    case round =>
      obtain ⟨j, cs, rfl, hj, hI⟩ := hrel
      obtain ⟨vs, rfl⟩ : ∃ vs : Value, vs = u3 := ⟨_, rfl⟩
      have HI := Lib.hid hI
      have b0 := cell2_0 hI.box
      have b1 := cell2_1 hI.box
      have r0 := cell2_0 hI.res
      have r1 := cell2_1 hI.res
      have f0 := cell3_f hI.res 0
      have f1 := cell3_f hI.res 1
      have hbr := hI.below
      have hsz := hI.size
      clear hI
      by_cases hlt : j < t.args.length
      · obtain ⟨b, o, rfl, hSb, hcells⟩ := HA.out (by omega)
        obtain ⟨B1, k1, h0, h1, h2, hbl⟩ := arg_cells hcells hlt
        have g0 := (hbr.cell (p := ⟨b, o + j * 2, none⟩) hbl).trans h0
        have g1 := (hbr.cell (p := ⟨b, o + j * 2 + 1, none⟩) hbl).trans h1
        have hna := HALL.out _ (List.getElem_mem hlt)
        have hat : t.args[j]? = some t.args[j] := List.getElem?_eq_getElem hlt
        generalize t.args[j] = a at *
        have HAT := Lib.hid hat
        have H2 := Lib.hid ((h2.below hbr).below ((Below.refl wr.heap.size wr).alloc (Nat.le_refl _) (.cells #[.int .i64 a.kind, .slice B1 a.args.length k1] 64)))
        have HNA := Lib.hid hna
        clear h0 h1 h2 hat hna hcells
        go_wp2_with (fail)
        refine (HIH.out S _ a _ HNA.out H2.out).mono ?_
        rintro e w3 ⟨⟨v3, rfl, hT3⟩, hb3⟩
        obtain ⟨A3, c3, rfl⟩ := hT3.form
        have HT3 := Lib.hid hT3
        have hs3 := hb3.size
        have hown3 := HI.out.own.kept (row := none) ⟨hb3.os, hb3.tape, hb3.output, by have := hb3.size; simp at this; omega, fun k hk _ => (hb3.block k (by simp; omega)).trans (Below.heap_alloc wr _ k hk)⟩ (by cases hv : vs.ownBlock <;> simp)
        clear hT3
        simp only [World.size_alloc] at hs3
        go_wp2_with (at_builtin; refine wpList_append_own_at _ rfl _ _ 43 rfl (w.heap.size + 2) 45 i0 (.agg #[.int .i64 0, .slice none 0 0]) 2 32 Tryz.underlying43 hi hq0 hq1 hq2 rfl (by decide) vs j cs rfl (hown3.alloc _) ⟨w3.heap.size, 0, none⟩ 1 1 [.int .i64 a.kind, .slice A3 a.args.length c3] rfl rfl (cell_two_new _ _ _ _ _ rfl) (two_one _ _ _ _) (by unfold maxLen; omega) (by omega) (by simp; omega) ?_; intro v' w7 hown7 hgrow7 _ hat7)
        go_roundw
        case rel => exact ⟨j + 1, _, by go_num, by omega, OfInv.next HI.out hb3 HT3.out HAT.out hgrow7 hown7 hat7⟩
        case measure => simp [intOf]; omega
      · obtain rfl : j = t.args.length := by omega
        have hO := HI.out
        obtain ⟨A', c', rfl⟩ := own_slice hO.own
        go_wp2_with (fail)
        refine bodyPost_ret (v := .agg #[.int .i64 t.kind, .slice A' t.args.length c']) (by simp [results, Tryz.results53, go_sem, r0, r1]) rfl ?_
        refine ⟨⟨_, rfl, ?_⟩, (hbr.setCell (p := ⟨w.heap.size + 1, 0, none⟩) (by show _ ≤ w.heap.size + 1; omega) _).setCell (p := ⟨w.heap.size + 1, 1, none⟩) (by show _ ≤ w.heap.size + 1; omega) _⟩
        have := ty_made_e (wF := (wr.setCell ⟨w.heap.size + 1, 0, none⟩ (.int .i64 t.kind)).setCell ⟨w.heap.size + 1, 1, none⟩ (.slice A' t.args.length c')) (lo := w.heap.size) (kd := t.kind) (acc := t.args) hO.own rfl (fun i a ha => hO.args i a (List.getElem?_eq_some_iff.1 ha).1 ha) (fun b hb => hb.1) (by omega) (fun b hb hl => by
          rw [Below.heap_setCell _ _ _ _ (by show b ≠ w.heap.size + 1; omega), Below.heap_setCell _ _ _ _ (by show b ≠ w.heap.size + 1; omega)])
        exact (show Ty.mk t.kind t.args = t by cases t; rfl) ▸ this
end Go.Proofs.YtllnamhgnbdkmaaGreatDoor.Lw
namespace Go.Proofs.YtllnamhgnbdkmaaGreatDoor.Lw5
open Go.ChangeShapes Go.WideShapes Go.RowKit
open Go.Proofs.YtllnamhgnbdkmaaGreatDoor.Lw (Nar SmOut cellsK3 ty_made_e)
theorem info37 : (Tryz.prog.info? 64).map (fun i => (i.zero, i.size, i.bytes)) = some (some (.agg #[.int .i64 0, .slice none 0 0]), 2, 32) := by kernel_rfl
structure OfInv (w : World) (v0 : Value) (t : Ty) (kd : Int) (d j : Nat) (vs : Value) (cs : List Value) (wr : World) : Prop where
  below : Below w.heap.size w wr
  size : w.heap.size + 2 ≤ wr.heap.size
  box : wr.heap[w.heap.size]? = some (.cells #[.int .i64 kd, v0] 45 (0, 0))
  res : wr.heap[w.heap.size + 1]? = some (.cells #[.int .i64 0, .slice none 0 0] 64 (0, 0))
  own : wr.ownsRow (w.heap.size + 2) 64 2 vs j cs
  args : ∀ (i : Nat) (a : Ty), i < j → t.args[i]? = some a → ∃ u0 u1, cs[i * 2]? = some u0 ∧ cs[i * 2 + 1]? = some u1 ∧ TyAt wr (fun b => w.heap.size + 2 ≤ b ∧ some b ≠ vs.ownBlock) d (.agg #[u0, u1]) a
theorem OfInv.next {w wr w3 w7 : World} {v0 vs v' u0 u1 : Value} {t a : Ty} {kd : Int} {d j : Nat} {cs : List Value} {o1 o2 : Obj} (h : OfInv w v0 t kd d j vs cs wr) (hb : Below (wr.alloc o1).heap.size (wr.alloc o1) w3) (hT : TyAt w3 (fun b => (wr.alloc o1).heap.size ≤ b) d (.agg #[u0, u1]) a) (ha : t.args[j]? = some a)
    (hg : (w3.alloc o2).grownBy w7 vs.ownBlock) (hown7 : w7.ownsRow (w.heap.size + 2) 64 2 v' (j + 1) (cs ++ [u0, u1])) (hat : v'.ownBlock = vs.ownBlock ∨ v'.ownBlock = some (w3.alloc o2).heap.size) :
    OfInv w v0 t kd d (j + 1) v' (cs ++ [u0, u1]) w7 := by
  have hs := h.size
  have hs3 := hb.size
  have e1 : (wr.alloc o1).heap.size = wr.heap.size + 1 := by simp
  have e3 : (w3.alloc o2).heap.size = w3.heap.size + 1 := by simp
  have hs7 := hg.size
  have hvs : ∀ b, vs.ownBlock = some b → w.heap.size + 2 ≤ b ∧ b < wr.heap.size := h.own.lt
  have step3 : ∀ b, b < w3.heap.size → some b ≠ vs.ownBlock → w7.heap[b]? = w3.heap[b]? := fun b hl hne => by
    rw [hg.block b (by omega) hne, Below.heap_alloc _ _ _ hl]
  have stepr : ∀ b, b < wr.heap.size → some b ≠ vs.ownBlock → w7.heap[b]? = wr.heap[b]? := fun b hl hne => by
    rw [step3 b (by omega) hne, hb.block b (by omega), Below.heap_alloc _ _ _ hl]
  have ne1 : ∀ b, b < w.heap.size + 2 → some b ≠ vs.ownBlock := fun b hl e => by have := (hvs b e.symm).1; omega
  have hbw : Below w.heap.size w w7 := ((h.below.alloc (by omega) o1).trans (hb.mono (by omega))).alloc (by omega) o2 |>.grown hg (by omega) (fun k hk => by have := (hvs k hk).1; omega)
  refine ⟨hbw, by omega, ?_, ?_, hown7, fun i b hi hib => ?_⟩
  · rw [stepr _ (by omega) (ne1 _ (by omega))]; exact h.box
  · rw [stepr _ (by omega) (ne1 _ (by omega))]; exact h.res
  · have hcl : cs.length = j * 2 := h.own.1
    rcases Nat.lt_or_ge i j with hlt | hge
    · obtain ⟨x0, x1, h0, h1, h2⟩ := h.args i b hlt hib
      refine ⟨x0, x1, by rw [List.getElem?_append_left (by omega)]; exact h0, by rw [List.getElem?_append_left (by omega)]; exact h1, h2.move fun k hk hl => ⟨⟨hk.1, fun e => ?_⟩, fun _ => World.cell?_of_block (stepr k hl hk.2)⟩⟩
      rcases hat with hh | hh
      · exact hk.2 (e.trans hh)
      · rw [hh, e3] at e; injection e; omega
    · obtain rfl : i = j := by omega
      rw [ha] at hib
      injection hib with hib
      subst hib
      have nev : ∀ k, wr.heap.size + 1 ≤ k → some k ≠ vs.ownBlock := fun k hk e => by have := (hvs k e.symm).2; omega
      refine ⟨u0, u1, by rw [List.getElem?_append_right (by omega)]; simp [show i * 2 - cs.length = 0 by omega], by rw [List.getElem?_append_right (by omega)]; simp [show i * 2 + 1 - cs.length = 1 by omega], hT.move fun k hk hl => ⟨⟨by omega, fun e => ?_⟩, fun _ => World.cell?_of_block (step3 k hl (nev k (by omega)))⟩⟩
      rcases hat with hh | hh
      · rw [hh] at e; exact nev k (by omega) e
      · rw [hh, e3] at e; injection e; omega
set_option maxRecDepth 100000 in
set_option maxHeartbeats 1000000 in
theorem typ_any : ∀ (d n : Nat) (S : Nat → Prop) (v : Value) (t : Ty) (w : World), Nar n t → TyAt w S d v t →
    Calls Tryz.prog 28 #[v] w fun e w' => (∃ v', e = .returned v' ∧ TyAt w' (fun b => w.heap.size ≤ b) d v' t) ∧ Below w.heap.size w w'
  | 0, n, S, v, t, w, _, hT => hT.elim
  | d + 1, 0, S, v, t, w, hN, _ => hN.elim
  | d + 1, n + 1, S, v, t, w, hN, hT => by
    obtain ⟨i0, hi, hq0, hq1, hq2⟩ := info_parts info37
    obtain ⟨hlen, hall⟩ := hN
    have IH := typ_any d n
    have HIH := Lib.hid IH
    have HALL := Lib.hid hall
    have HT := Lib.hid hT
    obtain ⟨A, c, rfl, hlc, hA⟩ := hT
    have HA := Lib.hid hA
    clear hA IH hall
    go_enter Tryz.func28, Tryz.ntmps28
    go_wp2_with (fail)
    go_loopw [3, 9] (fun vs i wr => ∃ (j : Nat) (cs : List Value), i = .int .i64 j ∧ j ≤ t.args.length ∧ OfInv w (.slice A t.args.length c) t t.kind d j vs cs wr) (fun _ i _ => 6000 - (intOf i).toNat)
    case atStart =>
      refine ⟨0, [], rfl, by omega, ((Below.refl _ _).alloc (Nat.le_refl _) _).alloc (by simp) _, by simp, ?_, ?_, World.ownsRow_nil _ _ _ _, fun i a hi => by omega⟩
      · rw [Below.heap_alloc _ _ _ (by simp)]; exact heap_alloc_new w _
      · exact (by simpa using heap_alloc_new (w.alloc _) _)
    case round =>
      obtain ⟨j, cs, rfl, hj, hI⟩ := hrel
      obtain ⟨vs, rfl⟩ : ∃ vs : Value, vs = u3 := ⟨_, rfl⟩
      have HI := Lib.hid hI
      have b0 := cell2_0 hI.box
      have b1 := cell2_1 hI.box
      have r0 := cell2_0 hI.res
      have r1 := cell2_1 hI.res
      have f0 := cell3_f hI.res 0
      have f1 := cell3_f hI.res 1
      have hbr := hI.below
      have hsz := hI.size
      clear hI
      by_cases hlt : j < t.args.length
      · obtain ⟨b, o, rfl, hSb, hcells⟩ := HA.out (by omega)
        obtain ⟨B1, k1, h0, h1, h2, hbl⟩ := arg_cells hcells hlt
        have g0 := (hbr.cell (p := ⟨b, o + j * 2, none⟩) hbl).trans h0
        have g1 := (hbr.cell (p := ⟨b, o + j * 2 + 1, none⟩) hbl).trans h1
        have hna := HALL.out _ (List.getElem_mem hlt)
        have hat : t.args[j]? = some t.args[j] := List.getElem?_eq_getElem hlt
        generalize t.args[j] = a at *
        have HAT := Lib.hid hat
        have H2 := Lib.hid ((h2.below hbr).below ((Below.refl wr.heap.size wr).alloc (Nat.le_refl _) (.cells #[.int .i64 a.kind, .slice B1 a.args.length k1] 45)))
        have HNA := Lib.hid hna
        clear h0 h1 h2 hat hna hcells
        go_wp2_with (fail)
        refine (HIH.out S _ a _ HNA.out H2.out).mono ?_
        rintro e w3 ⟨⟨v3, rfl, hT3⟩, hb3⟩
        obtain ⟨A3, c3, rfl⟩ := hT3.form
        have HT3 := Lib.hid hT3
        have hs3 := hb3.size
        have hown3 := HI.out.own.kept (row := none) ⟨hb3.os, hb3.tape, hb3.output, by have := hb3.size; simp at this; omega, fun k hk _ => (hb3.block k (by simp; omega)).trans (Below.heap_alloc wr _ k hk)⟩ (by cases hv : vs.ownBlock <;> simp)
        clear hT3
        simp only [World.size_alloc] at hs3
        go_wp2_with (at_builtin; refine wpList_append_own_at _ rfl _ _ 62 rfl (w.heap.size + 2) 64 i0 (.agg #[.int .i64 0, .slice none 0 0]) 2 32 Tryz.underlying62 hi hq0 hq1 hq2 rfl (by decide) vs j cs rfl (hown3.alloc _) ⟨w3.heap.size, 0, none⟩ 1 1 [.int .i64 a.kind, .slice A3 a.args.length c3] rfl rfl (cell_two_new _ _ _ _ _ rfl) (two_one _ _ _ _) (by unfold maxLen; omega) (by omega) (by simp; omega) ?_; intro v' w7 hown7 hgrow7 _ hat7)
        go_roundw
        case rel => exact ⟨j + 1, _, by go_num, by omega, OfInv.next HI.out hb3 HT3.out HAT.out hgrow7 hown7 hat7⟩
        case measure => simp [intOf]; omega
      · obtain rfl : j = t.args.length := by omega
        have hO := HI.out
        obtain ⟨A', c', rfl⟩ := own_slice hO.own
        go_wp2_with (fail)
        refine bodyPost_ret (v := .agg #[.int .i64 t.kind, .slice A' t.args.length c']) (by simp [results, Tryz.results28, go_sem, r0, r1]) rfl ?_
        refine ⟨⟨_, rfl, ?_⟩, (hbr.setCell (p := ⟨w.heap.size + 1, 0, none⟩) (by show _ ≤ w.heap.size + 1; omega) _).setCell (p := ⟨w.heap.size + 1, 1, none⟩) (by show _ ≤ w.heap.size + 1; omega) _⟩
        have := ty_made_e (wF := (wr.setCell ⟨w.heap.size + 1, 0, none⟩ (.int .i64 t.kind)).setCell ⟨w.heap.size + 1, 1, none⟩ (.slice A' t.args.length c')) (lo := w.heap.size) (kd := t.kind) (acc := t.args) hO.own rfl (fun i a ha => hO.args i a (List.getElem?_eq_some_iff.1 ha).1 ha) (fun b hb => hb.1) (by omega) (fun b hb hl => by
          rw [Below.heap_setCell _ _ _ _ (by show b ≠ w.heap.size + 1; omega), Below.heap_setCell _ _ _ _ (by show b ≠ w.heap.size + 1; omega)])
        exact (show Ty.mk t.kind t.args = t by cases t; rfl) ▸ this
theorem cellsT5 : Tryz.prog.cellsOf 45 = 2 := by kernel_rfl
theorem cellsK23 : Tryz.prog.cellsOf 43 = 1 := by kernel_rfl
set_option maxRecDepth 100000 in
theorem ty_open {H : Type} {enc : TypeId × Value → H} {w : World} {base : Nat} {sp : Nat → Bool} {held : Bool} : ∀ (fuel : Nat) (cs : List Value) (x : DataW H × List MemPlace), DataW.trod enc Tryz.prog w base sp held fuel 45 cs = some x →
    ∃ t, TyAt w (fun _ => True) fuel (.agg cs.toArray) t
  | 0, cs, x, h => by simp [DataW.trod] at h
  | fuel + 1, cs, x, h => by
    obtain ⟨xs, n, hn, hx, hl, hxl, hf⟩ := DataW.trod_struct Tryz.underlying45 h
    obtain rfl : n = fuel := by omega
    rw [cellsT5] at hl
    obtain ⟨c0, c1, rfl⟩ := list_two hl
    obtain ⟨x0, x1, rfl⟩ := list_two hxl
    have f0 : DataW.trod enc Tryz.prog w base sp held n 3 (([c0, c1].drop 0).take (Tryz.prog.cellsOf 3)) = some x0 := hf 0 _ rfl
    have f1 : DataW.trod enc Tryz.prog w base sp held n 43 (([c0, c1].drop 1).take (Tryz.prog.cellsOf 43)) = some x1 := hf 1 _ rfl
    rw [cellsK3] at f0
    rw [cellsK23] at f1
    obtain ⟨k, e0, _, _⟩ := DataW.trod_int Tryz.underlying3 (show DataW.trod enc Tryz.prog w base sp held n 3 [c0] = some x0 from f0)
    simp only [List.cons.injEq, and_true] at e0
    subst e0
    rcases DataW.trod_slice Tryz.underlying43 (show DataW.trod enc Tryz.prog w base sp held n 43 [c1] = some x1 from f1) with ⟨e1, _⟩ | ⟨a, len, cap, elems, rest, n', hn', e1, _, hb, hlc, _, hel, hcell, _⟩
    · simp only [List.cons.injEq, and_true] at e1
      subst e1
      exact ⟨.mk k [], none, 0, rfl, Nat.le_refl _, fun hl => absurd hl (by simp [Ty.args])⟩
    · simp only [List.cons.injEq, and_true] at e1
      subst e1
      rw [cellsT5] at hcell
      have key : ∀ i, i < len → ∃ t, ∃ u0 u1, w.cell? ((a.add (i * 2)).add 0) = some u0 ∧ w.cell? ((a.add (i * 2)).add 1) = some u1 ∧ TyAt w (fun _ => True) n' (.agg #[u0, u1]) t := fun i hi => by
        have h := hcell i hi
        rw [List.getElem?_eq_getElem (by omega)] at h
        obtain ⟨cs', hc, ht⟩ := Option.bind_eq_some_iff.1 h
        obtain ⟨_, hcl, hat⟩ := World.cells?_some hc
        obtain ⟨u0, u1, rfl⟩ := list_two hcl
        obtain ⟨t, hT⟩ := ty_open n' _ _ ht
        exact ⟨t, u0, u1, hat 0 (by omega), hat 1 (by omega), hT⟩
      obtain ⟨l, hll, hP⟩ := pick_list _ len key
      refine ⟨.mk k l, some a, cap, ?_, by show l.length ≤ cap; omega, fun hpos => ?_⟩
      · show Value.agg #[.int .i64 k, .slice (some a) len cap] = Value.agg #[.int .i64 k, .slice (some a) l.length cap]
        rw [hll]
      · have hp : 0 < len := by have : 0 < l.length := hpos; omega
        obtain ⟨_, u0, _, h0, _⟩ := key 0 hp
        have ha := spot_none h0
        have ha' : (a.add (0 * 2)).add 0 = a := by simp [Addr.add]
        rw [ha'] at ha
        refine ⟨a.block, a.off, by rw [← ha], trivial, fun j t hj => ?_⟩
        have hj' : l[j]? = some t := hj
        obtain ⟨u0, u1, h0, h1, hT⟩ := hP j t hj'
        rw [ha] at h0 h1
        refine ⟨u0, u1, ?_, ?_, TyAt.more n' n _ _ (by omega) hT⟩
        · rw [add_two0] at h0; exact h0
        · rw [add_two1] at h1; exact h1
set_option maxRecDepth 100000 in
set_option maxHeartbeats 1000000 in
theorem flat_any : ∀ (dep d : Nat) (S : Nat → Prop) (L : Nat) (v : Value) (t : Ty) (l : Int) (w : World), dep ≤ 30 → TyAt w S d v t → (∀ b, S b → b ≠ L) → w.heap[L]? = some (.cells #[.int .i64 l] 3 (0, 0)) → 0 ≤ l → l ≤ 5000 →
    Calls Tryz.prog 39 #[v, .pointer (some ⟨L, 0, none⟩), .int .i64 (dep : Int)] w fun e w' => SmOut dep t l L e w' ∧ Only L w w'
  | dep, 0, S, L, v, t, l, w, _, hT, _, _, _, _ => hT.elim
  | dep, d + 1, S, L, v, t, l, w, hdep, hT, hS, hL, hl0, hl1 => by
    have HT := Lib.hid hT
    have HS := Lib.hid hS
    have IH := fun (dep : Nat) => flat_any dep d
    have HIH := Lib.hid IH
    obtain ⟨A, c, rfl, hlc, hA⟩ := hT
    have HA := Lib.hid hA
    have hLl := cell_lt hL
    have c0 := cell1_0 hL
    have f0 := cell3_f hL 0
    clear hA hS IH
    by_cases hlz : l = 0
    · subst hlz
      go_enter Tryz.func39, Tryz.ntmps39
      go_wp2_with (fail)
      go_ret
      exact ⟨⟨false, -1, rfl, (Below.heap_alloc _ _ _ (by simpa [World.setCell] using hLl)).trans (one_stored hL _), by omega, by omega, by simp⟩, only_alloc' (Only.set_ L 0 w _) _⟩
    · obtain ⟨m, rfl⟩ : ∃ m, l = m + 1 := ⟨l - 1, by omega⟩
      have hm0 : 0 ≤ m := by omega
      have hmd : decide (m < 0) = false := by simp; omega
      by_cases hdz : dep = 0
      · subst hdz
        go_enter Tryz.func39, Tryz.ntmps39
        go_wp2_with (fail)
        go_ret
        exact ⟨⟨false, m, rfl, (Below.heap_alloc _ _ _ (by simpa [World.setCell] using hLl)).trans (one_stored hL _), by omega, by omega, by simp⟩, only_alloc' (Only.set_ L 0 w _) _⟩
      · obtain ⟨dp, rfl⟩ : ∃ dp, dep = dp + 1 := ⟨dep - 1, by omega⟩
        rw [show ((dp + 1 : Nat) : Int) = (dp : Int) + 1 by omega]
        have hd0 : (((dp : Int) + 1) == 0) = false := by simp; omega
        go_enter Tryz.func39, Tryz.ntmps39
        go_wp2_with (fail)
        go_loopw [25] (fun i wr => ∃ (j : Nat) (l' : Int), i = .int .i64 j ∧ j ≤ t.args.length ∧ wr.heap[L]? = some (.cells #[.int .i64 l'] 3 (0, 0)) ∧ 0 ≤ l' ∧ l' + j ≤ m ∧ Only L w wr ∧ Hid (∀ a ∈ t.args.take j, Nar dp a)) (fun i _ => 6000 - (intOf i).toNat)
        case atStart => exact ⟨0, m, rfl, by omega, (Below.heap_alloc _ _ _ (by simpa [World.setCell] using hLl)).trans (one_stored hL _), hm0, by omega, only_alloc' (Only.set_ L 0 w _) _, fun a ha => by simp at ha⟩
        case round =>
          obtain ⟨j, l', rfl, hj, hLr, hl'0, hl'j, hor, HN⟩ := hrel
          by_cases hlt : j < t.args.length
          · obtain ⟨b, o, rfl, hSb, hcells⟩ := HA.out (by omega)
            obtain ⟨u0, u1, h0, h1, h2⟩ := hcells j _ (List.getElem?_eq_getElem hlt)
            have hbl := World.block_lt_of_cell? w _ h0
            have hbne := HS.out b hSb
            obtain ⟨A', c', he'⟩ := h2.form
            injection he' with he'
            obtain ⟨rfl, rfl⟩ : u0 = .int .i64 (t.args[j]).kind ∧ u1 = .slice A' (t.args[j]).args.length c' := by
              have := congrArg Array.toList he'
              simpa using this
            have hbk : wr.heap[b]? = w.heap[b]? := hor.block b hbl (by simpa using hbne)
            have k0 := (World.cell?_of_block (a := ⟨b, o + j * 2, none⟩) hbk).trans h0
            have k1 := (World.cell?_of_block (a := ⟨b, o + j * 2 + 1, none⟩) hbk).trans h1
            have hts : t.args.take (j + 1) = t.args.take j ++ [t.args[j]] := by rw [List.take_add_one, List.getElem?_eq_getElem hlt]; rfl
            have HTS := Lib.hid hts
            generalize t.args[j] = a at *
            have H2 := Lib.hid (h2.only HS.out hor)
            clear h0 h1 h2 hts hcells he' hbk
            go_wp2_with (fail)
            refine (HIH.out dp S L _ a l' _ (by omega) (H2.out.below ((Below.refl _ wr).alloc (Nat.le_refl _) _)) HS.out ((Below.heap_alloc wr _ L (cell_lt hLr)).trans hLr) hl'0 (by omega)).mono ?_
            rintro e w3 ⟨⟨bb, l2, rfl, hL3, h21, h22, h23⟩, ho3⟩
            have ho3' := (only_alloc' hor _).trans ho3
            cases bb with
            | false =>
              go_wp2
              go_ret
              exact ⟨⟨false, l2, rfl, hL3, by omega, by omega, by simp⟩, ho3'⟩
            | true =>
              obtain ⟨h24, h25⟩ := h23 rfl
              go_wp2
              go_roundw
              case rel => exact ⟨j + 1, l2, by go_num, by omega, hL3, h24, by omega, ho3', by
                show ∀ a ∈ t.args.take (j + 1), Nar dp a
                rw [HTS.out]
                intro x hx
                rcases List.mem_append.1 hx with hx | hx
                · exact HN.out x hx
                · simp at hx; subst hx; exact h25⟩
              case measure => simp [intOf]; omega
          · obtain rfl : j = t.args.length := by omega
            have hN : ∀ a ∈ t.args, Nar dp a := by have := HN.out; rwa [List.take_length] at this
            go_wp2
            go_ret
            exact ⟨⟨true, l', rfl, hLr, by omega, by omega, fun _ => ⟨hl'0, by omega, hN⟩⟩, hor⟩
end Go.Proofs.YtllnamhgnbdkmaaGreatDoor.Lw5
