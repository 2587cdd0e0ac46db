/-
Stage 11: what stands beside the builder while GraphBuilds lays one node.
-/
import Derived.Test.YtllnamhgnbdkmaaGreatDoorGz
set_option linter.unusedVariables false
set_option linter.unusedSimpArgs false
namespace Go.Proofs.YtllnamhgnbdkmaaGreatDoor
open Go.RowKit Go.Shelf Go.Sort
structure Tn (P : Nat → Prop) (w w' : World) : Prop where
  os : w'.os = w.os
  tape : w'.tape = w.tape
  output : w'.output = w.output
  size : w.heap.size ≤ w'.heap.size
  block : ∀ k, k < w.heap.size → ¬ P k → w'.heap[k]? = w.heap[k]?
theorem Tn.refl (P : Nat → Prop) (w : World) : Tn P w w := ⟨rfl, rfl, rfl, Nat.le_refl _, fun _ _ _ => rfl⟩
theorem Tn.trans {P : Nat → Prop} {a b c : World} (h : Tn P a b) (k : Tn P b c) : Tn P a c :=
  ⟨k.os.trans h.os, k.tape.trans h.tape, k.output.trans h.output, Nat.le_trans h.size k.size, fun i hi hp => (k.block i (Nat.lt_of_lt_of_le hi h.size) hp).trans (h.block i hi hp)⟩
theorem Tn.imp {P Q : Nat → Prop} {a b : World} (h : Tn P a b) (hi : ∀ k, P k → Q k) : Tn Q a b := ⟨h.os, h.tape, h.output, h.size, fun k hk hq => h.block k hk fun hp => hq (hi k hp)⟩
theorem Tn.set {P : Nat → Prop} {w w' : World} {b i : Nat} {u : Value} (h : Tn P w w') (hp : P b) : Tn P w (w'.setCell ⟨b, i, none⟩ u) :=
  h.trans ⟨rfl, rfl, rfl, by simp [World.setCell], fun k hk hn => Below.heap_setCell w' ⟨b, i, none⟩ u k (fun e => hn (by have e' : k = b := e; rw [e']; exact hp))⟩
theorem Tn.dr {P : Nat → Prop} {w w' : World} (h : Tn P w w') : Tn P w w'.drew := by
  have hb := bl_dr (Below.refl w'.heap.size w')
  exact h.trans ⟨hb.os, hb.tape, hb.output, hb.size, fun k hk hn => hb.block k hk⟩
theorem Tn.of_below {P : Nat → Prop} {w w' : World} (hb : Below w.heap.size w w') : Tn P w w' := ⟨hb.os, hb.tape, hb.output, hb.size, fun k hk hn => hb.block k hk⟩
theorem Tn.below {P : Nat → Prop} {w0 w w' : World} {z : Nat} (h : Tn P w w') (hb : Below z w0 w) (hz : z ≤ w.heap.size) (hp : ∀ k, P k → z ≤ k) : Below z w0 w' :=
  hb.trans ⟨h.os, h.tape, h.output, h.size, fun k hk => h.block k (Nat.lt_of_lt_of_le hk hz) fun hk' => by have := hp k hk'; omega⟩
theorem own_keep {w w' : World} {B e s n : Nat} {v : Value} {xs : List Value} (h : w.ownsRow B e s v n xs) (hk : ∀ g, v.ownBlock = some g → w'.heap[g]? = w.heap[g]?) : w'.ownsRow B e s v n xs := by
  refine ⟨h.1, ?_⟩
  rcases h.2 with ⟨rfl, h0⟩ | ⟨g, cap, cur, rfl, hb, hg, hle, hc⟩
  · exact .inl ⟨rfl, h0⟩
  · exact .inr ⟨g, cap, cur, rfl, hb, (hk g rfl).trans hg, hle, hc⟩
theorem own_kind {w : World} {B e s n : Nat} {v : Value} {xs : List Value} (h : w.ownsRow B e s v n xs) {g : Nat} (hg : v.ownBlock = some g) : ∃ c, w.heap[g]? = some (.cells c e (0, 0)) := by
  rcases h.2 with ⟨rfl, h0⟩ | ⟨g', cap, cur, rfl, hb, hg', hle, hc⟩
  · cases hg
  · cases hg
    exact ⟨_, hg'⟩
theorem IntsO.keepP {w w' : World} {B : Nat} {v : Value} {l : List Int} (h : IntsO w B v l) (hk : ∀ g, 0 < l.length → v.ownBlock = some g → w'.heap[g]? = w.heap[g]?) : IntsO w' B v l := by
  obtain ⟨A, c, e, h1, h2, h3⟩ := h
  exact ⟨A, c, e, h1, h2, fun h0 => own_keep (h3 h0) fun g hg => hk g h0 hg⟩
theorem IntsO.kind {w : World} {B : Nat} {v : Value} {l : List Int} (h : IntsO w B v l) {g : Nat} (h0 : 0 < l.length) (hg : v.ownBlock = some g) : B ≤ g ∧ g < w.heap.size ∧ ∃ c, w.heap[g]? = some (.cells c 3 (0, 0)) := by
  obtain ⟨A, c, e, h1, h2, h3⟩ := h
  exact ⟨((h3 h0).lt g hg).1, ((h3 h0).lt g hg).2, own_kind (h3 h0) hg⟩
theorem KpB.kind {w w' : World} {BB B b : Nat} {C : Nat → Prop} {v : Value} {l : List Gn} {m : Int} {c : Array Value} {t : TypeId} {fr : Nat × Nat} (hB : Bld w BB B C v l m) (hk : KpB BB v.ownBlock w w') (h : w.heap[b]? = some (.cells c t fr)) (h1 : t ≠ 109) (h2 : t ≠ 83) : w'.heap[b]? = w.heap[b]? := by
  refine hk.block b (cell_lt h) ?_ ?_
  · rintro rfl
    have := hB.box
    rw [h] at this
    simp only [Option.some.injEq, Obj.cells.injEq] at this
    exact h1 this.2.1
  · intro e
    obtain ⟨c', hc⟩ := hB.row.ns.row e.symm
    rw [h] at hc
    simp only [Option.some.injEq, Obj.cells.injEq] at hc
    exact h2 hc.2.1
theorem KpB.below {w0 w w' : World} {BB B z : Nat} {C : Nat → Prop} {v : Value} {l : List Gn} {m : Int} (hB : Bld w BB B C v l m) (hk : KpB BB v.ownBlock w w') (hb : Below z w0 w) (hz : z ≤ BB) : Below z w0 w' :=
  hb.trans ⟨hk.os, hk.tape, hk.output, hk.size, fun k hl => hk.block k (by have := hB.top; have := hB.low; omega) (by omega) fun e => by have := (hB.row.low e.symm).1; have := hB.low; omega⟩
structure Mid (w0 w : World) (NB TB LB BB B d : Nat) (n : Gn) (IA SA A : Option Addr) (ic sc c : Nat) (x : Int) (pv bv vs vi tv : Value) (cs : List Value) (L K : List Gn) : Prop where
  below : Below w0.heap.size w0 w
  pl : PlR w w0.heap.size NB d pv L
  bld : Bld w BB B (fun b => (NB ≤ b ∧ b ≤ LB + 1) ∨ pv.ownBlock = some b) bv ((K.map madeN).take 33) ((K.map madeN).length : Int)
  zb : w0.heap.size ≤ BB
  bn : B ≤ NB
  nt : NB < TB
  tl : TB < LB
  node : w.heap[NB]? = some (.cells #[.int .i64 n.op, .slice IA n.ins.length ic, .slice SA n.side.length sc, .string ⟨n.text.toArray⟩, .int .i64 n.ty.kind, .slice A n.ty.args.length c, .int .i64 n.f0, .int .i64 n.f1, .int .i64 n.f2, .int .i64 n.f3, .int .i64 n.e, .int .i64 n.l, .int .i64 n.lt, .bool n.acc] 51 (0, 0))
  tb : w.heap[TB]? = some (.cells #[.int .i64 n.ty.kind, tv] 64 (0, 0))
  ta : w.ownsRow (NB + 1) 64 2 tv n.ty.args.length cs
  tz : ∀ g, tv.ownBlock = some g → g < TB
  fs : IntsO w (TB + 1) vs n.side
  vz : ∀ g, 0 < n.side.length → vs.ownBlock = some g → g < LB
  fi : IntsO w (TB + 1) vi n.ins
  vy : ∀ g, 0 < n.ins.length → vi.ownBlock = some g → g < LB
  vn : ∀ g, 0 < n.side.length → 0 < n.ins.length → vs.ownBlock = some g → vi.ownBlock ≠ some g
  lb : w.heap[LB]? = some (.cells #[.int .i64 x] 3 (0, 0))
theorem Mid.lay {w0 w w' : World} {NB TB LB BB B d : Nat} {n m : Gn} {IA SA A : Option Addr} {ic sc c : Nat} {x : Int} {pv bv vs vi tv : Value} {cs : List Value} {L K : List Gn} {e : Ending} (h : Mid w0 w NB TB LB BB B d n IA SA A ic sc c x pv bv vs vi tv cs L K)
    (hl : LayOut w BB B (fun b => (NB ≤ b ∧ b ≤ LB + 1) ∨ pv.ownBlock = some b) bv (K.map madeN) m e w') {M : Array Value} (hM : w.heap[LB + 1]? = some (.cells M 51 (0, 0))) :
    e = .returned (.int .i64 (K.length : Int)) ∧ w'.heap[LB + 1]? = some (.cells M 51 (0, 0)) ∧ ∃ bv', Mid w0 w' NB TB LB BB B d n IA SA A ic sc c x pv bv' vs vi tv cs L (K ++ [m]) := by
  obtain ⟨rfl, ⟨bv', hb⟩, hk⟩ := hl
  refine ⟨by rw [List.length_map], (hk.kind h.bld hM (by decide) (by decide)).trans hM, bv', hk.below h.bld h.below h.zb, h.pl.lay h.bld h.zb hk, ?_, h.zb, h.bn, h.nt, h.tl, (hk.kind h.bld h.node (by decide) (by decide)).trans h.node, (hk.kind h.bld h.tb (by decide) (by decide)).trans h.tb, own_keep h.ta fun g hg => ?_, h.tz, h.fs.keepP fun g h0 hg => ?_, h.vz, h.fi.keepP fun g h0 hg => ?_, h.vy, h.vn, (hk.kind h.bld h.lb (by decide) (by decide)).trans h.lb⟩
  · rw [List.map_append, List.length_append]
    exact hb
  · obtain ⟨c, hc⟩ := own_kind h.ta hg
    exact hk.kind h.bld hc (by decide) (by decide)
  · obtain ⟨_, _, c, hc⟩ := h.fs.kind h0 hg
    exact hk.kind h.bld hc (by decide) (by decide)
  · obtain ⟨_, _, c, hc⟩ := h.fi.kind h0 hg
    exact hk.kind h.bld hc (by decide) (by decide)
theorem Bld.move {w w' : World} {BB B : Nat} {C C' : Nat → Prop} {bv : Value} {l : List Gn} {m : Int} {P : Nat → Prop} (h : Bld w BB B C bv l m) (ht : Tn P w w') (hP : ∀ g, P g → C g ∧ ∃ c t fr, w.heap[g]? = some (.cells c t fr) ∧ t ≠ 83 ∧ t ≠ 109) (hC : ∀ b, C' b → C b ∨ w.heap.size ≤ b) : Bld w' BB B C' bv l m := by
  have hlow := h.low
  have htop := h.top
  refine ⟨(ht.block BB (cell_lt h.box) fun hp => ?_).trans h.box, ?_, h.low, Nat.le_trans h.top ht.size⟩
  · obtain ⟨_, c, t, fr, hc, _, hne⟩ := hP BB hp
    have := h.box
    rw [hc] at this
    simp only [Option.some.injEq, Obj.cells.injEq] at this
    exact hne this.2.1
  · obtain ⟨xs, ho, hn'⟩ := h.row
    refine ⟨xs, own_keep ho fun g hg => ht.block g (ho.lt g hg).2 fun hp => ?_, fun j n hj => ?_⟩
    · obtain ⟨_, c, t, fr, hc, hne, _⟩ := hP g hp
      obtain ⟨c', hc'⟩ := own_kind ho hg
      rw [hc] at hc'
      simp only [Option.some.injEq, Obj.cells.injEq] at hc'
      exact hne hc'.2.1
    · obtain ⟨IA, SA, A, ic, sc, c, hgn, hu⟩ := hn' j n hj
      exact ⟨IA, SA, A, ic, sc, c, hgn.move fun b hb hl => ⟨⟨hb.1, fun hc => (hC b hc).elim hb.2 fun hge => by omega⟩, Nat.lt_of_lt_of_le hl ht.size, fun o => World.cell?_of_block (ht.block b hl fun hp => hb.2 (hP b hp).1)⟩, hu⟩
theorem Mid.box {w0 w w' : World} {NB TB LB BB B d : Nat} {n : Gn} {IA SA A : Option Addr} {ic sc c : Nat} {x : Int} {pv bv vs vi tv : Value} {cs : List Value} {L K : List Gn} (h : Mid w0 w NB TB LB BB B d n IA SA A ic sc c x pv bv vs vi tv cs L K)
    (ht : Tn (fun b => b = LB + 1) w w') {M : Array Value} (hM : w.heap[LB + 1]? = some (.cells M 51 (0, 0))) : Mid w0 w' NB TB LB BB B d n IA SA A ic sc c x pv bv vs vi tv cs L K := by
  have h1 := h.nt
  have h2 := h.tl
  have h3 := h.zb
  have h4 := h.bn
  have h5 := h.bld.low
  have h6 := h.pl.2.1
  have hl := cell_lt hM
  have hk : ∀ b, b ≤ LB → w'.heap[b]? = w.heap[b]? := fun b hb => ht.block b (by omega) (by omega)
  exact ⟨ht.below h.below (by omega) (by rintro k rfl; omega), h.pl.aside ht.size fun b hb => hk b (by omega), h.bld.move ht (by rintro g rfl; exact ⟨.inl ⟨by omega, Nat.le_refl _⟩, _, _, _, hM, by decide, by decide⟩) (fun b hb => .inl hb), h3, h4, h1, h2, (hk _ (by omega)).trans h.node, (hk _ (by omega)).trans h.tb, own_keep h.ta fun g hg => hk g (by have := h.tz g hg; omega), h.tz, h.fs.keepP fun g h0 hg => hk g (by have := h.vz g h0 hg; omega), h.vz, h.fi.keepP fun g h0 hg => hk g (by have := h.vy g h0 hg; omega), h.vy, h.vn, (hk _ (by omega)).trans h.lb⟩
structure Aft (w0 w : World) (NB LB BB B d : Nat) (x : Int) (pv bv mv : Value) (L K : List Gn) (m : Gn) : Prop where
  below : Below w0.heap.size w0 w
  pl : PlR w w0.heap.size NB d pv L
  bld : Bld w BB B (fun b => (NB ≤ b ∧ b ≤ LB + 1) ∨ pv.ownBlock = some b) bv ((K.map madeN).take 33) ((K.map madeN).length : Int)
  zb : w0.heap.size ≤ BB
  bn : B ≤ NB
  nl : NB < LB
  lb : w.heap[LB]? = some (.cells #[.int .i64 x] 3 (0, 0))
  gn : GnAt w (fun b => b < w0.heap.size ∨ b = LB) d mv m
  box : w.heap[LB + 1]? = some (.cells mv.cells 51 (0, 0))
theorem Mid.aft {w0 w : World} {NB TB LB BB B d : Nat} {n m : Gn} {IA SA A : Option Addr} {ic sc c : Nat} {x : Int} {pv bv vs vi tv mv : Value} {cs : List Value} {L K : List Gn} (h : Mid w0 w NB TB LB BB B d n IA SA A ic sc c x pv bv vs vi tv cs L K) (hg : GnAt w (fun b => b < w0.heap.size ∨ b = LB) d mv m) (hb : w.heap[LB + 1]? = some (.cells mv.cells 51 (0, 0))) : Aft w0 w NB LB BB B d x pv bv mv L K m :=
  ⟨h.below, h.pl, h.bld, h.zb, h.bn, Nat.lt_trans h.nt h.tl, h.lb, hg, hb⟩
theorem Aft.turn {w0 w w' : World} {NB LB BB B d : Nat} {x : Int} {pv bv mv : Value} {L K : List Gn} {m : Gn} {P : Nat → Prop} (h : Aft w0 w NB LB BB B d x pv bv mv L K m) (ht : Tn P w w') (hP : ∀ g, P g → NB < g ∧ g < LB ∧ ∃ c t fr, w.heap[g]? = some (.cells c t fr) ∧ t ≠ 83 ∧ t ≠ 109) : Aft w0 w' NB LB BB B d x pv bv mv L K m := by
  have h1 := h.nl
  have h3 := h.zb
  have h4 := h.bn
  have h5 := h.bld.low
  have h6 := h.pl.2.1
  have hl := cell_lt h.box
  have hk : ∀ b, b < w.heap.size → (b ≤ NB ∨ LB ≤ b) → w'.heap[b]? = w.heap[b]? := fun b hl hb => ht.block b hl fun hp => by have := (hP b hp).1; have := (hP b hp).2.1; omega
  refine ⟨ht.below h.below (by omega) (fun k hp => by have := (hP k hp).1; omega), h.pl.aside ht.size fun b hb => hk b (by omega) (by omega), h.bld.move ht (fun g hp => ⟨.inl ⟨by have := (hP g hp).1; omega, by have := (hP g hp).2.1; omega⟩, (hP g hp).2.2⟩) (fun b hb => .inl hb), h3, h4, h1, (hk _ (by omega) (by omega)).trans h.lb, h.gn.move fun b hb hl => ⟨hb, Nat.lt_of_lt_of_le hl ht.size, fun o => World.cell?_of_block (hk b hl (by omega))⟩, (hk _ hl (by omega)).trans h.box⟩
theorem own_base {w : World} {B B' e s n : Nat} {v : Value} {xs : List Value} (h : w.ownsRow B e s v n xs) (hb : B' ≤ B) : w.ownsRow B' e s v n xs := by
  refine ⟨h.1, ?_⟩
  rcases h.2 with ⟨rfl, h0⟩ | ⟨g, cap, cur, rfl, hb', hg, hle, hc⟩
  · exact .inl ⟨rfl, h0⟩
  · exact .inr ⟨g, cap, cur, rfl, Nat.le_trans hb hb', hg, hle, hc⟩
theorem IntsO.base {w : World} {B B' : Nat} {v : Value} {l : List Int} (h : IntsO w B v l) (hb : B' ≤ B) : IntsO w B' v l := by
  obtain ⟨A, c, e, h1, h2, h3⟩ := h
  exact ⟨A, c, e, h1, h2, fun h0 => own_base (h3 h0) hb⟩
theorem IntsAt.mine {w0 w : World} {S : Nat → Prop} {LB : Nat} {v : Value} {l : List Int} (h : IntsAt w0 S v l) (hb : Below w0.heap.size w0 w) : IntsAt w (fun b => b < w0.heap.size ∨ b = LB) v l :=
  h.move fun b _ hl => ⟨.inl hl, Nat.lt_of_lt_of_le hl hb.size, fun o => World.cell?_of_block (hb.block b hl)⟩
theorem ty_mine {w0 w : World} {S : Nat → Prop} {LB d : Nat} {v : Value} {t : Ty} (h : TyAt w0 S d v t) (hb : Below w0.heap.size w0 w) : TyAt w (fun b => b < w0.heap.size ∨ b = LB) d v t :=
  TyAt.move (fun b hb' hl => ⟨.inl hl, fun o => World.cell?_of_block (hb.block b hl)⟩) _ _ _ h
theorem ints_lb {w : World} {z LB : Nat} {x : Int} (h : w.heap[LB]? = some (.cells #[.int .i64 x] 3 (0, 0))) : IntsAt w (fun b => b < z ∨ b = LB) (.slice (some ⟨LB, 0, none⟩) 1 1) [x] :=
  ⟨some ⟨LB, 0, none⟩, 1, rfl, Nat.le_refl _, (fun h => by cases h), fun _ => ⟨LB, 0, rfl, .inr rfl, cell_lt h, fun j y hy => by
    have hj := (List.getElem?_eq_some_iff.1 hy).1
    obtain rfl : j = 0 := by simpa using hj
    obtain rfl : x = y := by simpa using hy
    exact cellN (i := 0) h rfl⟩⟩
def Sw (w0 : World) (NB TB LB BB B d : Nat) (n : Gn) (IA SA A : Option Addr) (ic sc c : Nat) (x : Int) (pv vs vi tv : Value) (cs : List Value) (L : List Gn) (w : World) : Prop :=
  ∃ m I1 S1 A1 k1 k2 k3 bv, lawN n = some m ∧ Mid w0 w NB TB LB BB B d n IA SA A ic sc c x pv bv vs vi tv cs L (L ++ [m]) ∧ w.heap[LB + 1]? = some (.cells (m.val I1 S1 A1 k1 k2 k3).cells 51 (0, 0)) ∧ GnAt w (fun b => b < w0.heap.size ∨ b = LB) d (m.val I1 S1 A1 k1 k2 k3) m
theorem sw_end {w0 w w' : World} {NB TB LB BB B d : Nat} {n m : Gn} {IA SA A I1 S1 A1 : Option Addr} {ic sc c k1 k2 k3 : Nat} {x : Int} {pv bv vs vi tv : Value} {cs : List Value} {L : List Gn} (h : Mid w0 w NB TB LB BB B d n IA SA A ic sc c x pv bv vs vi tv cs L (L ++ [m])) (ht : Tn (fun b => b = LB + 1) w w') {M : Array Value} (hM : w.heap[LB + 1]? = some (.cells M 51 (0, 0)))
    (hl : lawN n = some m) (hb : w'.heap[LB + 1]? = some (.cells (m.val I1 S1 A1 k1 k2 k3).cells 51 (0, 0))) (hg : GnAt w (fun b => b < w0.heap.size ∨ b = LB) d (m.val I1 S1 A1 k1 k2 k3) m) : Sw w0 NB TB LB BB B d n IA SA A ic sc c x pv vs vi tv cs L w' := by
  have hb' := h.box ht hM
  refine ⟨m, I1, S1, A1, k1, k2, k3, bv, hl, hb', hb, hg.move fun b hb hl => ⟨hb, Nat.lt_of_lt_of_le hl ht.size, fun o => World.cell?_of_block (ht.block b hl ?_)⟩⟩
  rintro rfl
  have h1 := h.zb
  have h2 := h.bld.low
  have h3 := h.bn
  have h4 := h.nt
  have h5 := h.tl
  omega
theorem tyrow_at {w : World} {B : Nat} {A : Option Addr} {n c : Nat} {cs : List Value} (ho : w.ownsRow B 64 2 (.slice A n c) n cs) {j : Nat} (hj : j < n) : ∃ g, A = some ⟨g, 0, none⟩ ∧ B ≤ g ∧ g < w.heap.size ∧ (∃ u, w.cell? ⟨g, j * 2, none⟩ = some u) ∧ (∃ u, w.cell? ⟨g, j * 2 + 1, none⟩ = some u) ∧ w.frozen? ⟨g, j * 2, none⟩ = false ∧ w.frozen? ⟨g, j * 2 + 1, none⟩ = false ∧
    ∀ a b : Value, ∃ cs', ((w.setCell ⟨g, j * 2, none⟩ a).setCell ⟨g, j * 2 + 1, none⟩ b).ownsRow B 64 2 (.slice A n c) n cs' := by
  obtain ⟨g, cap, e4⟩ := Go.Joins.ownsRow_form ho (by omega)
  injection e4 with e5 e6 e7
  subst e5 e7
  have hlt := ho.lt g rfl
  refine ⟨g, rfl, hlt.1, hlt.2, ⟨_, (ho.cellAt (j * 2) (by omega)).trans (List.getElem?_eq_getElem (by have := ho.1; omega))⟩, ⟨_, (ho.cellAt (j * 2 + 1) (by omega)).trans (List.getElem?_eq_getElem (by have := ho.1; omega))⟩, ho.frozenAt _, ho.frozenAt _, fun a b => ⟨_, ((ho.stored (j * 2) a).1.stored (j * 2 + 1) b).1⟩⟩
end Go.Proofs.YtllnamhgnbdkmaaGreatDoor
set_option linter.unusedVariables false
set_option linter.unusedSimpArgs false
namespace Go.Proofs.YtllnamhgnbdkmaaGreatDoor
open Go.RowKit Go.Shelf Go.Sort
theorem mid_make {w0 wr W1 w3 W3 w4 W4 w5 W6 : World} {NB TB BB d : Nat} {n : Gn} {IA SA A : Option Addr} {ic sc c : Nat} {x : Int} {pv bv vs vi tv : Value} {cs : List Value} {L : List Gn}
    (hN : wr.heap.size = NB) (hT : w3.heap.size = TB) (hP : PlR wr w0.heap.size wr.heap.size d pv L) (hB : Bld wr BB (BB + 1) (fun b => pv.ownBlock = some b) bv ((L.map madeN).take 33) ((L.map madeN).length : Int)) (hb0 : Below w0.heap.size w0 wr) (hz : w0.heap.size ≤ BB)
    (h1 : Below wr.heap.size wr W1) (h1s : NB < W1.heap.size) (h3 : Below W1.heap.size W1 w3) (h3' : Below w3.heap.size w3 W3) (h3s : TB < W3.heap.size)
    (h4 : Below W3.heap.size W3 w4) (h4' : Below w4.heap.size w4 W4) (h5 : Below W4.heap.size W4 w5) (h6 : Below w5.heap.size w5 W6)
    (hn : W6.heap[NB]? = some (.cells #[.int .i64 n.op, .slice IA n.ins.length ic, .slice SA n.side.length sc, .string ⟨n.text.toArray⟩, .int .i64 n.ty.kind, .slice A n.ty.args.length c, .int .i64 n.f0, .int .i64 n.f1, .int .i64 n.f2, .int .i64 n.f3, .int .i64 n.e, .int .i64 n.l, .int .i64 n.lt, .bool n.acc] 51 (0, 0)))
    (ht : W6.heap[TB]? = some (.cells #[.int .i64 n.ty.kind, tv] 64 (0, 0)))
    (ho : w3.ownsRow (W1.heap.size + 2) 64 2 tv n.ty.args.length cs) (hs : ∃ B4, TB < B4 ∧ IntsO w4 B4 vs n.side) (hi : ∃ B5, w4.heap.size ≤ B5 ∧ IntsO w5 B5 vi n.ins)
    (hl : W6.heap[w5.heap.size]? = some (.cells #[.int .i64 x] 3 (0, 0))) : Mid w0 W6 NB TB w5.heap.size BB (BB + 1) d n IA SA A ic sc c x pv bv vs vi tv cs L L := by
  subst hN hT
  obtain ⟨B4, hb4, hs⟩ := hs
  obtain ⟨B5, hb5, hi⟩ := hi
  have s3 := h3.size
  have s3' := h3'.size
  have s4 := h4.size
  have s4' := h4'.size
  have s5 := h5.size
  have s6 := h6.size
  have b46 : Below w4.heap.size w4 W6 := bl_tr (bl_tr h4' h5) h6
  have b36 : Below w3.heap.size w3 W6 := bl_tr (bl_tr h3' h4) b46
  have br6 : Below wr.heap.size wr W6 := bl_tr (bl_tr h1 h3) b36
  refine ⟨hb0.trans (br6.mono hb0.size), hP.below br6, ?_, hz, hB.top, by omega, by omega, hn, ht, own_keep (own_base ho (by omega)) fun g hg => b36.block g (ho.lt g hg).2, fun g hg => (ho.lt g hg).2, ?_, fun g h0 hg => ?_, ?_, fun g h0 hg => ?_, fun g h0 h0' hg e => ?_, hl⟩
  · refine hB.move (P := fun _ => False) (Tn.of_below br6) (fun g h => h.elim) fun b hb => ?_
    rcases hb with hb | hb
    · exact .inr hb.1
    · exact .inl hb
  · exact (hs.base (by omega)).keepP fun g h0 hg => b46.block g (hs.kind h0 hg).2.1
  · have := (hs.kind h0 hg).2.1; omega
  · exact (hi.base (by omega)).keepP fun g h0 hg => h6.block g (hi.kind h0 hg).2.1
  · exact (hi.kind h0 hg).2.1
  · have h9 := (hs.kind h0 hg).2.1
    have h8 := (hi.kind h0' e).1
    omega
end Go.Proofs.YtllnamhgnbdkmaaGreatDoor
