import Derived.Test.YtaecndmncpfpfaaGreatDoorFi
import Derived.Test.YtaecndmncpfpfaaGreatDoorRr
import Derived.Test.YtaecndmncpfpfaaGreatDoorCw
import Derived.Test.YtaecndmncpfpfaaGreatDoorEw
import Derived.Deep.RegionHeld3
import Derived.Deep.CutRange
set_option linter.unusedVariables false
set_option linter.unusedSimpArgs false
namespace Go.Proofs.YtaecndmncpfpfaaGreatDoor.L5
open Go.RowKit
def NdR (lo hi : Nat) (W : World) (v : Value) (n : Nd) : Prop := ∃ d, NdAt W (fun b => lo ≤ b ∧ b < hi) d v n
theorem NdR.move {lo hi : Nat} {W W' : World} {v : Value} {n : Nd} (h : NdR lo hi W v n) (hk : ∀ b, lo ≤ b → b < hi → b < W.heap.size → W'.heap[b]? = W.heap[b]?) : NdR lo hi W' v n := by
 obtain ⟨d, h⟩ := h
 exact ⟨d, NdAt.move (fun b hb hl => ⟨hb, fun _ => World.cell?_of_block (hk b hb.1 hb.2 hl)⟩) d _ _ h⟩
theorem NdR.below {lo hi : Nat} {W W' : World} {v : Value} {n : Nd} (h : NdR lo hi W v n) (hb : Below W.heap.size W W') : NdR lo hi W' v n := h.move fun b _ _ hl => hb.block b hl
theorem NdR.set {lo hi : Nat} {W : World} {v : Value} {n : Nd} (h : NdR lo hi W v n) {g i : Nat} {u : Value} (hg : g < lo ∨ hi ≤ g) : NdR lo hi (W.setCell ⟨g, i, none⟩ u) v n := h.move fun b h1 h2 _ => Below.heap_setCell _ _ _ _ (by show b ≠ g; omega)
theorem NdR.toL {lo hi : Nat} {W : World} {v : Value} {n : Nd} (h : NdR lo hi W v n) (hl : hi ≤ W.heap.size) : NdL W v n := by
 obtain ⟨d, h⟩ := h
 exact ⟨d, NdAt.move (fun b hb _ => ⟨Nat.lt_of_lt_of_le hb.2 hl, fun _ => rfl⟩) d _ _ h⟩
theorem node_law2 {w : World} {v : Value} {n : Nd} (h : NdL w v n) (hn : NarN 60 n) : Calls Tryz.prog 12 #[v] w fun e w' => (∃ A c K k, e = .returned (.agg #[.string ⟨n.op.toArray⟩, .int .i64 n.int, .string ⟨n.text.toArray⟩, .int .i64 n.ty.kind, .slice A n.ty.args.length c, .slice K n.kids.length k]) ∧ NdR w.heap.size w'.heap.size w' (.agg #[.string ⟨n.op.toArray⟩, .int .i64 n.int, .string ⟨n.text.toArray⟩, .int .i64 n.ty.kind, .slice A n.ty.args.length c, .slice K n.kids.length k]) n) ∧ Below w.heap.size w w' := by
 obtain ⟨d, h⟩ := h
 refine (of_any d 60 _ v n w hn h).mono ?_
 rintro e w' ⟨⟨v', he, h'⟩, hb⟩
 obtain ⟨A, c, K, k, rfl⟩ := h'.form
 exact ⟨⟨A, c, K, k, he, d, NdAt.move (fun b hb hl => ⟨⟨hb, hl⟩, fun _ => rfl⟩) d _ _ h'⟩, hb⟩
theorem small_law {W : World} {v : Value} {n : Nd} {it : Ty} {sides : List Ty} {EA SA : Option Addr} {ek sk : Nat} (hN : NdL W v n) (hE : EvL W (.agg #[.int .i64 it.kind, .slice EA it.args.length ek, .slice SA sides.length sk]) it sides) :
    Calls Tryz.prog 9 #[v, .agg #[.int .i64 it.kind, .slice EA it.args.length ek, .slice SA sides.length sk]] W fun e w' => (∃ b, e = .returned (.bool b) ∧ (b = true → FewN 60 n ∧ SmE it sides)) ∧ Below W.heap.size W w' := by
 obtain ⟨d, hN⟩ := hN
 obtain ⟨A', k', SA', sk', D, e, h1, h2⟩ := hE
 injection e with e
 injection e with e
 injection e with e1 e2
 injection e2 with e2 e3
 injection e3 with e3 e4
 injection e2 with e5 e6 e7
 injection e3 with e8 e9 e10
 subst e5 e7 e8 e10
 exact small_any d D _ n it sides _ _ _ _ W hN h1 h2
theorem right_law {W : World} {it : Ty} {sides : List Ty} {EA SA : Option Addr} {ek sk : Nat} (hE : EvL W (.agg #[.int .i64 it.kind, .slice EA it.args.length ek, .slice SA sides.length sk]) it sides) (hS : SmE it sides) :
    Calls Tryz.prog 16 #[.agg #[.int .i64 it.kind, .slice EA it.args.length ek, .slice SA sides.length sk]] W fun e w' => e = .returned (.bool (rightE it sides)) ∧ Below W.heap.size W w' := by
 obtain ⟨A', k', SA', sk', D, e, h1, h2⟩ := hE
 injection e with e
 injection e with e
 injection e with e1 e2
 injection e2 with e2 e3
 injection e3 with e3 e4
 injection e2 with e5 e6 e7
 injection e3 with e8 e9 e10
 subst e5 e7 e8 e10
 exact right5_any D it sides _ _ _ _ W h1 h2 hS
structure Bxs (W : World) (q1 q2 q3 q4 : Nat) (a b c e : Array Value) : Prop where
 b1 : W.heap[q1]? = some (.cells a 27 (0, 0))
 b2 : W.heap[q2]? = some (.cells b 27 (0, 0))
 b3 : W.heap[q3]? = some (.cells c 27 (0, 0))
 b4 : W.heap[q4]? = some (.cells e 29 (0, 0))
theorem Bxs.below {W W' : World} {q1 q2 q3 q4 : Nat} {a b c e : Array Value} (h : Bxs W q1 q2 q3 q4 a b c e) (hb : Below W.heap.size W W') : Bxs W' q1 q2 q3 q4 a b c e :=
 ⟨(hb.block _ (cell_lt h.b1)).trans h.b1, (hb.block _ (cell_lt h.b2)).trans h.b2, (hb.block _ (cell_lt h.b3)).trans h.b3, (hb.block _ (cell_lt h.b4)).trans h.b4⟩
def Bx4 (W0 W : World) (s3 s4 s5 s6 : Value) (a b c e : Array Value) : Prop := ∃ q1 q2 q3 q4, s3 = .pointer (some ⟨q1, 0, none⟩) ∧ s4 = .pointer (some ⟨q2, 0, none⟩) ∧ s5 = .pointer (some ⟨q3, 0, none⟩) ∧ s6 = .pointer (some ⟨q4, 0, none⟩) ∧ Bxs W q1 q2 q3 q4 a b c e ∧ Below W0.heap.size W0 W
theorem zero6_put {W : World} {q : Nat} {a0 a1 a2 a3 a4 a5 b0 b1 b2 b3 b4 b5 : Value} {t : TypeId} (h : W.heap[q]? = some (.cells #[a0, a1, a2, a3, a4, a5] t (0, 0))) : ((((((W.setCell ⟨q, 0, none⟩ b0).setCell ⟨q, 1, none⟩ b1).setCell ⟨q, 2, none⟩ b2).setCell ⟨q, 3, none⟩ b3).setCell ⟨q, 4, none⟩ b4).setCell ⟨q, 5, none⟩ b5).heap[q]? = some (.cells #[b0, b1, b2, b3, b4, b5] t (0, 0)) := by
 simp [World.setCell, Array.getElem?_modify, h]
theorem keep18 {w0 W : World} {q1 q2 q3 q4 : Nat} {a0 a1 a2 a3 a4 a5 b0 b1 b2 b3 b4 b5 c0 c1 c2 c3 c4 c5 : Value} {e : Array Value} (h : Bxs w0 q1 q2 q3 q4 #[a0, a1, a2, a3, a4, a5] #[b0, b1, b2, b3, b4, b5] #[c0, c1, c2, c3, c4, c5] e) (hb : Below w0.heap.size w0 W) :
    W.cell? ⟨q1, 0, none⟩ = some a0 ∧ W.cell? ⟨q1, 1, none⟩ = some a1 ∧ W.cell? ⟨q1, 2, none⟩ = some a2 ∧ W.cell? ⟨q1, 3, none⟩ = some a3 ∧ W.cell? ⟨q1, 4, none⟩ = some a4 ∧ W.cell? ⟨q1, 5, none⟩ = some a5 ∧ W.cell? ⟨q2, 0, none⟩ = some b0 ∧ W.cell? ⟨q2, 1, none⟩ = some b1 ∧ W.cell? ⟨q2, 2, none⟩ = some b2 ∧ W.cell? ⟨q2, 3, none⟩ = some b3 ∧ W.cell? ⟨q2, 4, none⟩ = some b4 ∧ W.cell? ⟨q2, 5, none⟩ = some b5 ∧ W.cell? ⟨q3, 0, none⟩ = some c0 ∧ W.cell? ⟨q3, 1, none⟩ = some c1 ∧ W.cell? ⟨q3, 2, none⟩ = some c2 ∧ W.cell? ⟨q3, 3, none⟩ = some c3 ∧ W.cell? ⟨q3, 4, none⟩ = some c4 ∧ W.cell? ⟨q3, 5, none⟩ = some c5 ∧ Below w0.heap.size w0 W := by
 have g := h.below hb
 exact ⟨cell6_0 g.b1, cell6_1 g.b1, cell6_2 g.b1, cell6_3 g.b1, cell6_4 g.b1, cell6_5 g.b1, cell6_0 g.b2, cell6_1 g.b2, cell6_2 g.b2, cell6_3 g.b2, cell6_4 g.b2, cell6_5 g.b2, cell6_0 g.b3, cell6_1 g.b3, cell6_2 g.b3, cell6_3 g.b3, cell6_4 g.b3, cell6_5 g.b3, hb⟩
def OutA (lo : Nat) (W : World) (v : Value) (n : Nd) : Prop := ∃ q g, v = .pointer (some ⟨q, 0, none⟩) ∧ lo ≤ q ∧ W.heap[q]? = some (.cells #[.string ⟨#[105, 102]⟩, .int .i64 0, .string ⟨#[]⟩, .int .i64 0, .slice none 0 0, .slice (some ⟨g, 0, none⟩) 3 3] 41 (0, 0)) ∧ NdL W (.agg #[.string ⟨#[105, 102]⟩, .int .i64 0, .string ⟨#[]⟩, .int .i64 0, .slice none 0 0, .slice (some ⟨g, 0, none⟩) 3 3]) n
theorem if_made {W : World} {g : Nat} {c x y : Nd} {Ac Kc Ax Kx Ay Ky : Option Addr} {cc kc cx kx cy ky lc hc lx hx ly hy : Nat} (hg : W.heap[g]? = some (.cells #[.string ⟨c.op.toArray⟩, .int .i64 c.int, .string ⟨c.text.toArray⟩, .int .i64 c.ty.kind, .slice Ac c.ty.args.length cc, .slice Kc c.kids.length kc, .string ⟨x.op.toArray⟩, .int .i64 x.int, .string ⟨x.text.toArray⟩, .int .i64 x.ty.kind, .slice Ax x.ty.args.length cx, .slice Kx x.kids.length kx, .string ⟨y.op.toArray⟩, .int .i64 y.int, .string ⟨y.text.toArray⟩, .int .i64 y.ty.kind, .slice Ay y.ty.args.length cy, .slice Ky y.kids.length ky] 41 (0, 0)))
    (h1 : NdR lc hc W (.agg #[.string ⟨c.op.toArray⟩, .int .i64 c.int, .string ⟨c.text.toArray⟩, .int .i64 c.ty.kind, .slice Ac c.ty.args.length cc, .slice Kc c.kids.length kc]) c) (h2 : NdR lx hx W (.agg #[.string ⟨x.op.toArray⟩, .int .i64 x.int, .string ⟨x.text.toArray⟩, .int .i64 x.ty.kind, .slice Ax x.ty.args.length cx, .slice Kx x.kids.length kx]) x) (h3 : NdR ly hy W (.agg #[.string ⟨y.op.toArray⟩, .int .i64 y.int, .string ⟨y.text.toArray⟩, .int .i64 y.ty.kind, .slice Ay y.ty.args.length cy, .slice Ky y.kids.length ky]) y) (l1 : hc ≤ W.heap.size) (l2 : hx ≤ W.heap.size) (l3 : hy ≤ W.heap.size) :
    NdL W (.agg #[.string ⟨#[105, 102]⟩, .int .i64 0, .string ⟨#[]⟩, .int .i64 0, .slice none 0 0, .slice (some ⟨g, 0, none⟩) 3 3]) (ndI c x y) := by
 refine kids_made (op := [105, 102]) (ks := [c, x, y]) (cell_lt hg) (by simp) fun j a ha => ?_
 match j, ha with
 | 0, ha => injection ha with ha; subst ha; exact kid_of hg rfl rfl rfl rfl rfl rfl (h1.toL l1)
 | 1, ha => injection ha with ha; subst ha; exact kid_of hg rfl rfl rfl rfl rfl rfl (h2.toL l2)
 | 2, ha => injection ha with ha; subst ha; exact kid_of hg rfl rfl rfl rfl rfl rfl (h3.toL l3)
 | j + 3, ha => simp at ha
theorem res_right {it : Ty} {sides : List Ty} {n : Nd} {t : Ty} (h : rightE it sides = true) (hr : resI it sides n = .ok t) : RT t :=
 inferT_right formsT it sides (rightE_spec h).1 (rightE_spec h).2 24 [] [] n t (by simp) hr
theorem infR_true {it : Ty} {sides : List Ty} {r : Except (Int × List Int) Ty} (h : rightE it sides = true) : infR true it sides r = r := by
 unfold infR
 rw [if_pos rfl, if_pos h]
inductive IfC (RO Rc Rx Ry : Except (Int × List Int) Ty) : Prop
 | c (no qs) (h1 : Rc = .error (no, qs)) (h2 : RO = .error (no, 0 :: qs))
 | x (a no qs) (h0 : Rc = .ok a) (h1 : Rx = .error (no, qs)) (h2 : RO = .error (no, 1 :: qs))
 | y (a b no qs) (h0 : Rc = .ok a) (h3 : Rx = .ok b) (h1 : Ry = .error (no, qs)) (h2 : RO = .error (no, 2 :: qs))
 | no (a b d) (h0 : Rc = .ok a) (h3 : Rx = .ok b) (h1 : Ry = .ok d) (h2 : RO = .error (50, [])) (h4 : ¬ (a.kind = 1 ∧ Knd.sameT b d = true))
 | yes (a b d) (h0 : Rc = .ok a) (h3 : Rx = .ok b) (h1 : Ry = .ok d) (h2 : RO = .ok b) (h4 : a.kind = 1) (h5 : Knd.sameT b d = true) (h6 : RT b)
theorem if_cases {it : Ty} {sides : List Ty} {c x y : Nd} (hr : rightE it sides = true) (hc : InfOk FOk 23 c) (hx : InfOk FOk 23 x) (hy : InfOk FOk 23 y) : IfC (resI it sides (ndI c x y)) (resI it sides c) (resI it sides x) (resI it sides y) := by
 have h := res_if (it := it) (sides := sides) hc hx hy
 cases h1 : resI it sides c with
 | error e => obtain ⟨no, qs⟩ := e; rw [h1] at h; exact .c no qs rfl h
 | ok a =>
   cases h2 : resI it sides x with
   | error e => obtain ⟨no, qs⟩ := e; rw [h1, h2] at h; exact .x a no qs rfl rfl h
   | ok b =>
     cases h3 : resI it sides y with
     | error e => obtain ⟨no, qs⟩ := e; rw [h1, h2, h3] at h; exact .y a b no qs rfl rfl rfl h
     | ok d =>
       rw [h1, h2, h3] at h
       have ha := res_right hr h1
       have hb := res_right hr h2
       have h' : resI it sides (ndI c x y) = optR 50 [] (comeF [a, b, d] [[tT, mA, mA, mA]]) := h
       rw [come_if ha hb] at h'
       by_cases hk : a.kind = 1 ∧ Knd.sameT b d = true
       · rw [if_pos hk] at h'
         exact .yes a b d rfl rfl rfl h' hk.1 hk.2 hb
       · rw [if_neg hk] at h'
         exact .no a b d rfl rfl rfl h' hk
theorem BoxA.below {R : Except (Int × List Int) Ty} {lo : Nat} {W W' : World} {v : Value} (h : BoxA R lo W v) (hb : Below W.heap.size W W') : BoxA R lo W' v := by
 obtain ⟨q, kd, A, l, c, rfl, h1, h2, h3, h4⟩ := h
 exact ⟨q, kd, A, l, c, rfl, h1, (hb.block _ (cell_lt h2)).trans h2, h3, h4.below hb⟩
theorem NdR.set6 {lo hi : Nat} {W : World} {v : Value} {n : Nd} (h : NdR lo hi W v n) {g : Nat} {b0 b1 b2 b3 b4 b5 : Value} (hg : g < lo ∨ hi ≤ g) : NdR lo hi ((((((W.setCell ⟨g, 0, none⟩ b0).setCell ⟨g, 1, none⟩ b1).setCell ⟨g, 2, none⟩ b2).setCell ⟨g, 3, none⟩ b3).setCell ⟨g, 4, none⟩ b4).setCell ⟨g, 5, none⟩ b5) v n :=
 (((((h.set hg).set hg).set hg).set hg).set hg).set hg
theorem bl_set6 {a b : World} {g : Nat} {b0 b1 b2 b3 b4 b5 : Value} (h : Below a.heap.size a b) (hp : a.heap.size ≤ g) : Below a.heap.size a ((((((b.setCell ⟨g, 0, none⟩ b0).setCell ⟨g, 1, none⟩ b1).setCell ⟨g, 2, none⟩ b2).setCell ⟨g, 3, none⟩ b3).setCell ⟨g, 4, none⟩ b4).setCell ⟨g, 5, none⟩ b5) :=
 bl_set (bl_set (bl_set (bl_set (bl_set (bl_set h hp) hp) hp) hp) hp) hp
theorem size_set6 {b : World} {g : Nat} {b0 b1 b2 b3 b4 b5 : Value} : ((((((b.setCell ⟨g, 0, none⟩ b0).setCell ⟨g, 1, none⟩ b1).setCell ⟨g, 2, none⟩ b2).setCell ⟨g, 3, none⟩ b3).setCell ⟨g, 4, none⟩ b4).setCell ⟨g, 5, none⟩ b5).heap.size = b.heap.size := by simp [World.setCell]
theorem leaf1 {V wA wB wC : World} {c x y : Nd} {Ac Kc Ax Kx Ay Ky : Option Addr} {cc kc cx kx cy ky lc lx ly : Nat} (hb : Below V.heap.size V wC) (h1 : NdR lc wA.heap.size wC (.agg #[.string ⟨c.op.toArray⟩, .int .i64 c.int, .string ⟨c.text.toArray⟩, .int .i64 c.ty.kind, .slice Ac c.ty.args.length cc, .slice Kc c.kids.length kc]) c) (h2 : NdR lx wB.heap.size wC (.agg #[.string ⟨x.op.toArray⟩, .int .i64 x.int, .string ⟨x.text.toArray⟩, .int .i64 x.ty.kind, .slice Ax x.ty.args.length cx, .slice Kx x.kids.length kx]) x) (h3 : NdR ly wC.heap.size wC (.agg #[.string ⟨y.op.toArray⟩, .int .i64 y.int, .string ⟨y.text.toArray⟩, .int .i64 y.ty.kind, .slice Ay y.ty.args.length cy, .slice Ky y.kids.length ky]) y) (l1 : wA.heap.size ≤ wB.heap.size) (l2 : wB.heap.size ≤ wC.heap.size) :
    Below V.heap.size V ((wC.alloc (.cells #[.string ⟨c.op.toArray⟩, .int .i64 c.int, .string ⟨c.text.toArray⟩, .int .i64 c.ty.kind, .slice Ac c.ty.args.length cc, .slice Kc c.kids.length kc, .string ⟨x.op.toArray⟩, .int .i64 x.int, .string ⟨x.text.toArray⟩, .int .i64 x.ty.kind, .slice Ax x.ty.args.length cx, .slice Kx x.kids.length kx, .string ⟨y.op.toArray⟩, .int .i64 y.int, .string ⟨y.text.toArray⟩, .int .i64 y.ty.kind, .slice Ay y.ty.args.length cy, .slice Ky y.kids.length ky] 41)).alloc (.cells #[.string ⟨#[105, 102]⟩, .int .i64 0, .string ⟨#[]⟩, .int .i64 0, .slice none 0 0, .slice (some ⟨wC.heap.size, 0, none⟩) 3 3] 41)) ∧ OutA V.heap.size ((wC.alloc (.cells #[.string ⟨c.op.toArray⟩, .int .i64 c.int, .string ⟨c.text.toArray⟩, .int .i64 c.ty.kind, .slice Ac c.ty.args.length cc, .slice Kc c.kids.length kc, .string ⟨x.op.toArray⟩, .int .i64 x.int, .string ⟨x.text.toArray⟩, .int .i64 x.ty.kind, .slice Ax x.ty.args.length cx, .slice Kx x.kids.length kx, .string ⟨y.op.toArray⟩, .int .i64 y.int, .string ⟨y.text.toArray⟩, .int .i64 y.ty.kind, .slice Ay y.ty.args.length cy, .slice Ky y.kids.length ky] 41)).alloc (.cells #[.string ⟨#[105, 102]⟩, .int .i64 0, .string ⟨#[]⟩, .int .i64 0, .slice none 0 0, .slice (some ⟨wC.heap.size, 0, none⟩) 3 3] 41)) (.pointer (some ⟨wC.heap.size + 1, 0, none⟩)) (ndI c x y) := by
 have hz := hb.size
 exact ⟨bl_al (bl_al hb _) _, wC.heap.size + 1, wC.heap.size, rfl, (by omega), heap_new_at (by simp), if_made (alloc_old (heap_alloc_new wC _)) (h1.below (bl_al (bl_al (Below.refl _ _) _) _)) (h2.below (bl_al (bl_al (Below.refl _ _) _) _)) (h3.below (bl_al (bl_al (Below.refl _ _) _) _)) (by simp; omega) (by simp; omega) (by simp; omega)⟩
theorem leaf2 {V wA wB wC : World} {c x y : Nd} {Ac Kc Ax Kx Ay Ky : Option Addr} {cc kc cx kx cy ky lc lx ly : Nat} (hb : Below V.heap.size V wC) (h1 : NdR lc wA.heap.size wC (.agg #[.string ⟨c.op.toArray⟩, .int .i64 c.int, .string ⟨c.text.toArray⟩, .int .i64 c.ty.kind, .slice Ac c.ty.args.length cc, .slice Kc c.kids.length kc]) c) (h2 : NdR lx wB.heap.size wC (.agg #[.string ⟨x.op.toArray⟩, .int .i64 x.int, .string ⟨x.text.toArray⟩, .int .i64 x.ty.kind, .slice Ax x.ty.args.length cx, .slice Kx x.kids.length kx]) x) (h3 : NdR ly wC.heap.size wC (.agg #[.string ⟨y.op.toArray⟩, .int .i64 y.int, .string ⟨y.text.toArray⟩, .int .i64 y.ty.kind, .slice Ay y.ty.args.length cy, .slice Ky y.kids.length ky]) y) (l1 : wA.heap.size ≤ wB.heap.size) (l2 : wB.heap.size ≤ wC.heap.size) :
    Below V.heap.size V ((wC.alloc (.cells #[.string ⟨#[105, 102]⟩, .int .i64 0, .string ⟨#[]⟩, .int .i64 0, .slice none 0 0, .slice (some ⟨wC.heap.size + 1, 0, none⟩) 3 3] 41)).alloc (.cells #[.string ⟨c.op.toArray⟩, .int .i64 c.int, .string ⟨c.text.toArray⟩, .int .i64 c.ty.kind, .slice Ac c.ty.args.length cc, .slice Kc c.kids.length kc, .string ⟨x.op.toArray⟩, .int .i64 x.int, .string ⟨x.text.toArray⟩, .int .i64 x.ty.kind, .slice Ax x.ty.args.length cx, .slice Kx x.kids.length kx, .string ⟨y.op.toArray⟩, .int .i64 y.int, .string ⟨y.text.toArray⟩, .int .i64 y.ty.kind, .slice Ay y.ty.args.length cy, .slice Ky y.kids.length ky] 41)) ∧ OutA V.heap.size ((wC.alloc (.cells #[.string ⟨#[105, 102]⟩, .int .i64 0, .string ⟨#[]⟩, .int .i64 0, .slice none 0 0, .slice (some ⟨wC.heap.size + 1, 0, none⟩) 3 3] 41)).alloc (.cells #[.string ⟨c.op.toArray⟩, .int .i64 c.int, .string ⟨c.text.toArray⟩, .int .i64 c.ty.kind, .slice Ac c.ty.args.length cc, .slice Kc c.kids.length kc, .string ⟨x.op.toArray⟩, .int .i64 x.int, .string ⟨x.text.toArray⟩, .int .i64 x.ty.kind, .slice Ax x.ty.args.length cx, .slice Kx x.kids.length kx, .string ⟨y.op.toArray⟩, .int .i64 y.int, .string ⟨y.text.toArray⟩, .int .i64 y.ty.kind, .slice Ay y.ty.args.length cy, .slice Ky y.kids.length ky] 41)) (.pointer (some ⟨wC.heap.size, 0, none⟩)) (ndI c x y) := by
 have hz := hb.size
 exact ⟨bl_al (bl_al hb _) _, wC.heap.size, wC.heap.size + 1, rfl, (by omega), alloc_old (heap_alloc_new wC _), if_made (heap_new_at (by simp)) (h1.below (bl_al (bl_al (Below.refl _ _) _) _)) (h2.below (bl_al (bl_al (Below.refl _ _) _) _)) (h3.below (bl_al (bl_al (Below.refl _ _) _) _)) (by simp; omega) (by simp; omega) (by simp; omega)⟩
theorem leaf3 {V wA wB wC : World} {q : Nat} {c x y : Nd} {Ac Kc Ax Kx Ay Ky : Option Addr} {cc kc cx kx cy ky lc lx ly : Nat} {zs : Array Value} (hz : wC.heap[q]? = some (.cells #[.string ⟨#[]⟩, .int .i64 0, .string ⟨#[]⟩, .int .i64 0, .slice none 0 0, .slice none 0 0] 41 (0, 0))) (hq : V.heap.size ≤ q) (hb : Below V.heap.size V wC) (h1 : NdR lc wA.heap.size wC (.agg #[.string ⟨c.op.toArray⟩, .int .i64 c.int, .string ⟨c.text.toArray⟩, .int .i64 c.ty.kind, .slice Ac c.ty.args.length cc, .slice Kc c.kids.length kc]) c) (h2 : NdR lx wB.heap.size wC (.agg #[.string ⟨x.op.toArray⟩, .int .i64 x.int, .string ⟨x.text.toArray⟩, .int .i64 x.ty.kind, .slice Ax x.ty.args.length cx, .slice Kx x.kids.length kx]) x) (h3 : NdR ly wC.heap.size wC (.agg #[.string ⟨y.op.toArray⟩, .int .i64 y.int, .string ⟨y.text.toArray⟩, .int .i64 y.ty.kind, .slice Ay y.ty.args.length cy, .slice Ky y.kids.length ky]) y) (l1 : wA.heap.size ≤ wB.heap.size) (l2 : wB.heap.size ≤ wC.heap.size) (g1 : q < lc ∨ wA.heap.size ≤ q) (g2 : q < lx ∨ wB.heap.size ≤ q) (g3 : q < ly ∨ wC.heap.size ≤ q) :
    Below V.heap.size V (((((((wC.setCell ⟨q, 0, none⟩ (.string ⟨#[105, 102]⟩)).setCell ⟨q, 1, none⟩ (.int .i64 0)).setCell ⟨q, 2, none⟩ (.string ⟨#[]⟩)).setCell ⟨q, 3, none⟩ (.int .i64 0)).setCell ⟨q, 4, none⟩ (.slice none 0 0)).setCell ⟨q, 5, none⟩ (.slice (some ⟨wC.heap.size, 0, none⟩) 3 3)).alloc (.cells #[.string ⟨c.op.toArray⟩, .int .i64 c.int, .string ⟨c.text.toArray⟩, .int .i64 c.ty.kind, .slice Ac c.ty.args.length cc, .slice Kc c.kids.length kc, .string ⟨x.op.toArray⟩, .int .i64 x.int, .string ⟨x.text.toArray⟩, .int .i64 x.ty.kind, .slice Ax x.ty.args.length cx, .slice Kx x.kids.length kx, .string ⟨y.op.toArray⟩, .int .i64 y.int, .string ⟨y.text.toArray⟩, .int .i64 y.ty.kind, .slice Ay y.ty.args.length cy, .slice Ky y.kids.length ky] 41)) ∧ OutA V.heap.size (((((((wC.setCell ⟨q, 0, none⟩ (.string ⟨#[105, 102]⟩)).setCell ⟨q, 1, none⟩ (.int .i64 0)).setCell ⟨q, 2, none⟩ (.string ⟨#[]⟩)).setCell ⟨q, 3, none⟩ (.int .i64 0)).setCell ⟨q, 4, none⟩ (.slice none 0 0)).setCell ⟨q, 5, none⟩ (.slice (some ⟨wC.heap.size, 0, none⟩) 3 3)).alloc (.cells #[.string ⟨c.op.toArray⟩, .int .i64 c.int, .string ⟨c.text.toArray⟩, .int .i64 c.ty.kind, .slice Ac c.ty.args.length cc, .slice Kc c.kids.length kc, .string ⟨x.op.toArray⟩, .int .i64 x.int, .string ⟨x.text.toArray⟩, .int .i64 x.ty.kind, .slice Ax x.ty.args.length cx, .slice Kx x.kids.length kx, .string ⟨y.op.toArray⟩, .int .i64 y.int, .string ⟨y.text.toArray⟩, .int .i64 y.ty.kind, .slice Ay y.ty.args.length cy, .slice Ky y.kids.length ky] 41)) (.pointer (some ⟨q, 0, none⟩)) (ndI c x y) := by
 exact ⟨bl_al (bl_set6 hb hq) _, q, wC.heap.size, rfl, hq, alloc_old (zero6_put hz), if_made (heap_new_at size_set6) ((h1.set6 g1).below (bl_al (Below.refl _ _) _)) ((h2.set6 g2).below (bl_al (Below.refl _ _) _)) ((h3.set6 g3).below (bl_al (Below.refl _ _) _)) (by simp [World.setCell] <;> omega) (by simp [World.setCell] <;> omega) (by simp [World.setCell] <;> omega)⟩
theorem Bxs.drew {W : World} {q1 q2 q3 q4 : Nat} {a b c e : Array Value} (h : Bxs W q1 q2 q3 q4 a b c e) : Bxs W.drew q1 q2 q3 q4 a b c e := ⟨h.b1, h.b2, h.b3, h.b4⟩
