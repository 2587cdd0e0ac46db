import Derived.Test.YtaecndmncpfpfaaGreatDoorGh
import Derived.Test.YtaecndmncpfpfaaGreatDoorLh
import Derived.Test.YtaecndmncpfpfaaGreatDoorSw
import Derived.Test.YtaecndmncpfpfaaGreatDoorEv
import Derived.Maps.AppendAt
set_option linter.unusedVariables false
set_option linter.unusedSimpArgs false
namespace Go.Proofs.YtaecndmncpfpfaaGreatDoor.L5
open Go.RowKit
theorem keep15 {w0 W : World} {q1 q2 q3 q4 : Nat} {a0 a1 a2 a3 a4 a5 b0 b1 b2 b3 b4 b5 e0 e1 e2 : Value} {c : Array Value} (h : Bxs w0 q1 q2 q3 q4 #[a0, a1, a2, a3, a4, a5] #[b0, b1, b2, b3, b4, b5] c #[e0, e1, e2]) (hb : Below w0.heap.size w0 W) :
    W.cell? ⟨q1, 0, none⟩ = some a0 ∧ W.cell? ⟨q1, 1, none⟩ = some a1 ∧ W.cell? ⟨q1, 2, none⟩ = some a2 ∧ W.cell? ⟨q1, 3, none⟩ = some a3 ∧ W.cell? ⟨q1, 4, none⟩ = some a4 ∧ W.cell? ⟨q1, 5, none⟩ = some a5 ∧ W.cell? ⟨q2, 0, none⟩ = some b0 ∧ W.cell? ⟨q2, 1, none⟩ = some b1 ∧ W.cell? ⟨q2, 2, none⟩ = some b2 ∧ W.cell? ⟨q2, 3, none⟩ = some b3 ∧ W.cell? ⟨q2, 4, none⟩ = some b4 ∧ W.cell? ⟨q2, 5, none⟩ = some b5 ∧ W.cell? ⟨q4, 0, none⟩ = some e0 ∧ W.cell? ⟨q4, 1, none⟩ = some e1 ∧ W.cell? ⟨q4, 2, none⟩ = some e2 ∧ Below w0.heap.size w0 W := by
 have g := h.below hb
 exact ⟨cell6_0 g.b1, cell6_1 g.b1, cell6_2 g.b1, cell6_3 g.b1, cell6_4 g.b1, cell6_5 g.b1, cell6_0 g.b2, cell6_1 g.b2, cell6_2 g.b2, cell6_3 g.b2, cell6_4 g.b2, cell6_5 g.b2, cell3_0 g.b4, cell3_1 g.b4, cell3_2 g.b4, hb⟩
def OutL (lo : Nat) (W : World) (v : Value) (n : Nd) : Prop := ∃ q g, v = .pointer (some ⟨q, 0, none⟩) ∧ lo ≤ q ∧ W.heap[q]? = some (.cells #[.string ⟨#[108, 101, 116]⟩, .int .i64 0, .string ⟨#[]⟩, .int .i64 0, .slice none 0 0, .slice (some ⟨g, 0, none⟩) 3 3] 41 (0, 0)) ∧ NdL W (.agg #[.string ⟨#[108, 101, 116]⟩, .int .i64 0, .string ⟨#[]⟩, .int .i64 0, .slice none 0 0, .slice (some ⟨g, 0, none⟩) 3 3]) n
theorem let_made {W : World} {g : Nat} {c y : Nd} {Ac Kc Ay Ky : Option Addr} {cc kc cy ky lc hc ly hy : Nat} (hg : W.heap[g]? = some (.cells #[.string ⟨#[110, 97, 109, 101]⟩, .int .i64 0, .string ⟨#[119]⟩, .int .i64 0, .slice none 0 0, .slice none 0 0, .string ⟨c.op.toArray⟩, .int .i64 c.int, .string ⟨c.text.toArray⟩, .int .i64 c.ty.kind, .slice Ac c.ty.args.length cc, .slice Kc c.kids.length kc, .string ⟨y.op.toArray⟩, .int .i64 y.int, .string ⟨y.text.toArray⟩, .int .i64 y.ty.kind, .slice Ay y.ty.args.length cy, .slice Ky y.kids.length ky] 41 (0, 0)))
    (h1 : NdR lc hc W (.agg #[.string ⟨c.op.toArray⟩, .int .i64 c.int, .string ⟨c.text.toArray⟩, .int .i64 c.ty.kind, .slice Ac c.ty.args.length cc, .slice Kc c.kids.length kc]) c) (h3 : NdR ly hy W (.agg #[.string ⟨y.op.toArray⟩, .int .i64 y.int, .string ⟨y.text.toArray⟩, .int .i64 y.ty.kind, .slice Ay y.ty.args.length cy, .slice Ky y.kids.length ky]) y) (l1 : hc ≤ W.heap.size) (l3 : hy ≤ W.heap.size) :
    NdL W (.agg #[.string ⟨#[108, 101, 116]⟩, .int .i64 0, .string ⟨#[]⟩, .int .i64 0, .slice none 0 0, .slice (some ⟨g, 0, none⟩) 3 3]) (ndLet c y) := by
 refine kids_made (op := letW) (ks := [.mk nameW 0 wW ty0 [], c, y]) (cell_lt hg) (by simp) fun j a ha => ?_
 match j, ha with
 | 0, ha => injection ha with ha; subst ha; exact kid_of hg rfl rfl rfl rfl rfl rfl ⟨1, nd_w W _ 0⟩
 | 1, ha => injection ha with ha; subst ha; exact kid_of hg rfl rfl rfl rfl rfl rfl (h1.toL l1)
 | 2, ha => injection ha with ha; subst ha; exact kid_of hg rfl rfl rfl rfl rfl rfl (h3.toL l3)
 | j + 3, ha => simp at ha
theorem leafL1 {V wA wC : World} {c y : Nd} {Ac Kc Ay Ky : Option Addr} {cc kc cy ky lc ly : Nat} (hb : Below V.heap.size V wC) (h1 : NdR lc wA.heap.size wC (.agg #[.string ⟨c.op.toArray⟩, .int .i64 c.int, .string ⟨c.text.toArray⟩, .int .i64 c.ty.kind, .slice Ac c.ty.args.length cc, .slice Kc c.kids.length kc]) c) (h3 : NdR ly wC.heap.size wC (.agg #[.string ⟨y.op.toArray⟩, .int .i64 y.int, .string ⟨y.text.toArray⟩, .int .i64 y.ty.kind, .slice Ay y.ty.args.length cy, .slice Ky y.kids.length ky]) y) (l1 : wA.heap.size ≤ wC.heap.size) :
    Below V.heap.size V ((wC.alloc (.cells #[.string ⟨#[110, 97, 109, 101]⟩, .int .i64 0, .string ⟨#[119]⟩, .int .i64 0, .slice none 0 0, .slice none 0 0, .string ⟨c.op.toArray⟩, .int .i64 c.int, .string ⟨c.text.toArray⟩, .int .i64 c.ty.kind, .slice Ac c.ty.args.length cc, .slice Kc c.kids.length kc, .string ⟨y.op.toArray⟩, .int .i64 y.int, .string ⟨y.text.toArray⟩, .int .i64 y.ty.kind, .slice Ay y.ty.args.length cy, .slice Ky y.kids.length ky] 41)).alloc (.cells #[.string ⟨#[108, 101, 116]⟩, .int .i64 0, .string ⟨#[]⟩, .int .i64 0, .slice none 0 0, .slice (some ⟨wC.heap.size, 0, none⟩) 3 3] 41)) ∧ OutL V.heap.size ((wC.alloc (.cells #[.string ⟨#[110, 97, 109, 101]⟩, .int .i64 0, .string ⟨#[119]⟩, .int .i64 0, .slice none 0 0, .slice none 0 0, .string ⟨c.op.toArray⟩, .int .i64 c.int, .string ⟨c.text.toArray⟩, .int .i64 c.ty.kind, .slice Ac c.ty.args.length cc, .slice Kc c.kids.length kc, .string ⟨y.op.toArray⟩, .int .i64 y.int, .string ⟨y.text.toArray⟩, .int .i64 y.ty.kind, .slice Ay y.ty.args.length cy, .slice Ky y.kids.length ky] 41)).alloc (.cells #[.string ⟨#[108, 101, 116]⟩, .int .i64 0, .string ⟨#[]⟩, .int .i64 0, .slice none 0 0, .slice (some ⟨wC.heap.size, 0, none⟩) 3 3] 41)) (.pointer (some ⟨wC.heap.size + 1, 0, none⟩)) (ndLet c y) := by
 have hz := hb.size
 exact ⟨bl_al (bl_al hb _) _, wC.heap.size + 1, wC.heap.size, rfl, (by omega), heap_new_at (by simp), let_made (alloc_old (heap_alloc_new wC _)) (h1.below (bl_al (bl_al (Below.refl _ _) _) _)) (h3.below (bl_al (bl_al (Below.refl _ _) _) _)) (by simp; omega) (by simp; omega)⟩
theorem leafL2 {V wA wC : World} {c y : Nd} {Ac Kc Ay Ky : Option Addr} {cc kc cy ky lc ly : Nat} (hb : Below V.heap.size V wC) (h1 : NdR lc wA.heap.size wC (.agg #[.string ⟨c.op.toArray⟩, .int .i64 c.int, .string ⟨c.text.toArray⟩, .int .i64 c.ty.kind, .slice Ac c.ty.args.length cc, .slice Kc c.kids.length kc]) c) (h3 : NdR ly wC.heap.size wC (.agg #[.string ⟨y.op.toArray⟩, .int .i64 y.int, .string ⟨y.text.toArray⟩, .int .i64 y.ty.kind, .slice Ay y.ty.args.length cy, .slice Ky y.kids.length ky]) y) (l1 : wA.heap.size ≤ wC.heap.size) :
    Below V.heap.size V ((wC.alloc (.cells #[.string ⟨#[108, 101, 116]⟩, .int .i64 0, .string ⟨#[]⟩, .int .i64 0, .slice none 0 0, .slice (some ⟨wC.heap.size + 1, 0, none⟩) 3 3] 41)).alloc (.cells #[.string ⟨#[110, 97, 109, 101]⟩, .int .i64 0, .string ⟨#[119]⟩, .int .i64 0, .slice none 0 0, .slice none 0 0, .string ⟨c.op.toArray⟩, .int .i64 c.int, .string ⟨c.text.toArray⟩, .int .i64 c.ty.kind, .slice Ac c.ty.args.length cc, .slice Kc c.kids.length kc, .string ⟨y.op.toArray⟩, .int .i64 y.int, .string ⟨y.text.toArray⟩, .int .i64 y.ty.kind, .slice Ay y.ty.args.length cy, .slice Ky y.kids.length ky] 41)) ∧ OutL V.heap.size ((wC.alloc (.cells #[.string ⟨#[108, 101, 116]⟩, .int .i64 0, .string ⟨#[]⟩, .int .i64 0, .slice none 0 0, .slice (some ⟨wC.heap.size + 1, 0, none⟩) 3 3] 41)).alloc (.cells #[.string ⟨#[110, 97, 109, 101]⟩, .int .i64 0, .string ⟨#[119]⟩, .int .i64 0, .slice none 0 0, .slice none 0 0, .string ⟨c.op.toArray⟩, .int .i64 c.int, .string ⟨c.text.toArray⟩, .int .i64 c.ty.kind, .slice Ac c.ty.args.length cc, .slice Kc c.kids.length kc, .string ⟨y.op.toArray⟩, .int .i64 y.int, .string ⟨y.text.toArray⟩, .int .i64 y.ty.kind, .slice Ay y.ty.args.length cy, .slice Ky y.kids.length ky] 41)) (.pointer (some ⟨wC.heap.size, 0, none⟩)) (ndLet c y) := by
 have hz := hb.size
 exact ⟨bl_al (bl_al hb _) _, wC.heap.size, wC.heap.size + 1, rfl, (by omega), alloc_old (heap_alloc_new wC _), let_made (heap_new_at (by simp)) (h1.below (bl_al (bl_al (Below.refl _ _) _) _)) (h3.below (bl_al (bl_al (Below.refl _ _) _) _)) (by simp; omega) (by simp; omega)⟩
theorem leafL3 {V wA wC : World} {c y : Nd} {Ac Kc Ay Ky : Option Addr} {cc kc cy ky lc ly : Nat} {q : Nat} (hz : wC.heap[q]? = some (.cells #[.string ⟨#[]⟩, .int .i64 0, .string ⟨#[]⟩, .int .i64 0, .slice none 0 0, .slice none 0 0] 41 (0, 0))) (hq : V.heap.size ≤ q) (hb : Below V.heap.size V wC) (h1 : NdR lc wA.heap.size wC (.agg #[.string ⟨c.op.toArray⟩, .int .i64 c.int, .string ⟨c.text.toArray⟩, .int .i64 c.ty.kind, .slice Ac c.ty.args.length cc, .slice Kc c.kids.length kc]) c) (h3 : NdR ly wC.heap.size wC (.agg #[.string ⟨y.op.toArray⟩, .int .i64 y.int, .string ⟨y.text.toArray⟩, .int .i64 y.ty.kind, .slice Ay y.ty.args.length cy, .slice Ky y.kids.length ky]) y) (l1 : wA.heap.size ≤ wC.heap.size) (g1 : q < lc ∨ wA.heap.size ≤ q) (g3 : q < ly ∨ wC.heap.size ≤ q) :
    Below V.heap.size V (((((((wC.setCell ⟨q, 0, none⟩ (.string ⟨#[108, 101, 116]⟩)).setCell ⟨q, 1, none⟩ (.int .i64 0)).setCell ⟨q, 2, none⟩ (.string ⟨#[]⟩)).setCell ⟨q, 3, none⟩ (.int .i64 0)).setCell ⟨q, 4, none⟩ (.slice none 0 0)).setCell ⟨q, 5, none⟩ (.slice (some ⟨wC.heap.size, 0, none⟩) 3 3)).alloc (.cells #[.string ⟨#[110, 97, 109, 101]⟩, .int .i64 0, .string ⟨#[119]⟩, .int .i64 0, .slice none 0 0, .slice none 0 0, .string ⟨c.op.toArray⟩, .int .i64 c.int, .string ⟨c.text.toArray⟩, .int .i64 c.ty.kind, .slice Ac c.ty.args.length cc, .slice Kc c.kids.length kc, .string ⟨y.op.toArray⟩, .int .i64 y.int, .string ⟨y.text.toArray⟩, .int .i64 y.ty.kind, .slice Ay y.ty.args.length cy, .slice Ky y.kids.length ky] 41)) ∧ OutL V.heap.size (((((((wC.setCell ⟨q, 0, none⟩ (.string ⟨#[108, 101, 116]⟩)).setCell ⟨q, 1, none⟩ (.int .i64 0)).setCell ⟨q, 2, none⟩ (.string ⟨#[]⟩)).setCell ⟨q, 3, none⟩ (.int .i64 0)).setCell ⟨q, 4, none⟩ (.slice none 0 0)).setCell ⟨q, 5, none⟩ (.slice (some ⟨wC.heap.size, 0, none⟩) 3 3)).alloc (.cells #[.string ⟨#[110, 97, 109, 101]⟩, .int .i64 0, .string ⟨#[119]⟩, .int .i64 0, .slice none 0 0, .slice none 0 0, .string ⟨c.op.toArray⟩, .int .i64 c.int, .string ⟨c.text.toArray⟩, .int .i64 c.ty.kind, .slice Ac c.ty.args.length cc, .slice Kc c.kids.length kc, .string ⟨y.op.toArray⟩, .int .i64 y.int, .string ⟨y.text.toArray⟩, .int .i64 y.ty.kind, .slice Ay y.ty.args.length cy, .slice Ky y.kids.length ky] 41)) (.pointer (some ⟨q, 0, none⟩)) (ndLet c y) := by
 exact ⟨bl_al (bl_set6 hb hq) _, q, wC.heap.size, rfl, hq, alloc_old (zero6_put hz), let_made (heap_new_at size_set6) ((h1.set6 g1).below (bl_al (Below.refl _ _) _)) ((h3.set6 g3).below (bl_al (Below.refl _ _) _)) (by simp [World.setCell] <;> omega) (by simp [World.setCell] <;> omega)⟩
theorem nar_swap (s : Nat) : ∀ (d q : Nat) (n : Nd), NarN d n → NarN d (swapT s q n)
 | 0, _, _, h => h.elim
 | d + 1, 0, n, h => h
 | d + 1, q + 1, n, ⟨h1, h2, h3⟩ => by
   rw [swapT]
   split
   · exact ⟨⟨by show (0 : Nat) ≤ 5000; omega, fun k hk => by cases hk⟩, by show (0 : Nat) ≤ 5000; omega, fun k hk => by cases hk⟩
   · refine ⟨h1, ?_, fun k hk => ?_⟩
     · show (n.kids.map _).length ≤ 5000
       rw [List.length_map]; exact h2
     · obtain ⟨a, ha, rfl⟩ := List.mem_map.1 hk
       exact nar_swap s d q a (h3 a ha)
theorem rg_swap (s : Nat) : ∀ (r q : Nat) (n : Nd), RgN r n → RgN r (swapT s q n)
 | 0, _, _, _ => trivial
 | r + 1, 0, n, h => h
 | r + 1, q + 1, n, ⟨h1, h2, h3, h4⟩ => by
   rw [swapT]
   split
   · exact ⟨by show (-9223372036854775808 : Int) ≤ 0; decide, by show (0 : Int) ≤ 9223372036854775807; decide, by show (1 : Nat) ≤ 1000000; omega, fun k hk => by cases hk⟩
   · refine ⟨h1, h2, h3, fun k hk => ?_⟩
     obtain ⟨a, ha, rfl⟩ := List.mem_map.1 hk
     exact rg_swap s r q a (h4 a ha)
theorem swap_law {W : World} {v : Value} {n : Nd} {k5 : Int} {EA SA : Option Addr} {el ek s sk : Nat} (hN : NdL W v n) (hn : NarN 60 n) :
    Calls Tryz.prog 26 #[v, .agg #[.int .i64 k5, .slice EA el ek, .slice SA s sk]] W fun e w' => (∃ A c K k, e = .returned (.agg #[.string ⟨(swapT s 60 n).op.toArray⟩, .int .i64 (swapT s 60 n).int, .string ⟨(swapT s 60 n).text.toArray⟩, .int .i64 (swapT s 60 n).ty.kind, .slice A (swapT s 60 n).ty.args.length c, .slice K (swapT s 60 n).kids.length k]) ∧ NdL w' (.agg #[.string ⟨(swapT s 60 n).op.toArray⟩, .int .i64 (swapT s 60 n).int, .string ⟨(swapT s 60 n).text.toArray⟩, .int .i64 (swapT s 60 n).ty.kind, .slice A (swapT s 60 n).ty.args.length c, .slice K (swapT s 60 n).kids.length k]) (swapT s 60 n)) ∧ Below W.heap.size W w' := by
 obtain ⟨d, hN⟩ := hN
 refine (swap_any k5 EA SA el ek s sk 60 d _ v n W hn hN (fun _ h => h)).mono ?_
 rintro e w' ⟨⟨v', he, h'⟩, hb⟩
 obtain ⟨A, c, K, k, rfl⟩ := h'.form
 exact ⟨⟨A, c, K, k, he, d, NdAt.move (fun b _ hl => ⟨hl, fun _ => rfl⟩) d _ _ h'⟩, hb⟩
theorem holds_law {W : World} {v : Value} {n : Nd} (hN : NdL W v n) (hn : NarN 60 n) : Calls Tryz.prog 28 #[v] W fun e w' => e = .returned (.bool (holdsT 60 n)) ∧ Below W.heap.size W w' := by
 obtain ⟨d, hN⟩ := hN
 exact holds_any 60 d _ v n W hn hN
theorem infR_ok {b : Bool} {it : Ty} {sides : List Ty} {x : Except (Int × List Int) Ty} {t : Ty} (h : infR b it sides x = .ok t) : b = true ∧ rightE it sides = true ∧ x = .ok t := by
 unfold infR at h
 cases b with
 | false => simp at h
 | true =>
   cases hr : rightE it sides with
   | false => rw [hr] at h; simp at h
   | true => rw [hr] at h; exact ⟨rfl, rfl, by simpa using h⟩
end Go.Proofs.YtaecndmncpfpfaaGreatDoor.L5
set_option linter.unusedVariables false
set_option linter.unusedSimpArgs false
namespace Go.Proofs.YtaecndmncpfpfaaGreatDoor.L5
open Go.RowKit
theorem env_law2 {W : World} {it : Ty} {sides : List Ty} {EA SA : Option Addr} {ek sk : Nat} (hE : EvL W (.agg #[.int .i64 it.kind, .slice EA it.args.length ek, .slice SA sides.length sk]) it sides) (hS : SmE it sides) :
    Calls Tryz.prog 13 #[.agg #[.int .i64 it.kind, .slice EA it.args.length ek, .slice SA sides.length sk]] W fun e w' => EvOwn W w' e it sides ∧ Below W.heap.size W w' := by
 obtain ⟨A', k', SA', sk', D, e, h1, h2⟩ := hE
 injection e with e
 injection e with e
 injection e with e1 e2
 injection e2 with e2 e3
 injection e3 with e3 e4
 injection e2 with e5 e6 e7
 injection e3 with e8 e9 e10
 subst e5 e7 e8 e10
 exact env_own D it sides _ _ _ _ W h1 h2 hS
theorem ev_more {V w5 w7 : World} {it t : Ty} {sides : List Ty} {IA AA At A' : Option Addr} {ik ak ct c' D : Nat} {cs : List Value} {o1 o2 : Obj} (hV : V.heap.size ≤ w5.heap.size) (hT : TyAt w5 (fun b => V.heap.size ≤ b ∧ some b ≠ (Value.slice AA sides.length ak).ownBlock) D (.agg #[.int .i64 it.kind, .slice IA it.args.length ik]) it)
    (hown : w5.ownsRow V.heap.size 34 2 (.slice AA sides.length ak) sides.length cs) (hargs : ∀ (i : Nat) (a : Ty), sides[i]? = some a → ∃ u0 u1, cs[i * 2]? = some u0 ∧ cs[i * 2 + 1]? = some u1 ∧ TyAt w5 (fun b => V.heap.size ≤ b ∧ some b ≠ (Value.slice AA sides.length ak).ownBlock) D (.agg #[u0, u1]) a)
    (hb : Below V.heap.size V w5) (htt : TyL V (.agg #[.int .i64 t.kind, .slice At t.args.length ct]) t) (hg : ((w5.alloc o1).alloc o2).grownBy w7 (Value.slice AA sides.length ak).ownBlock)
    (hown7 : w7.ownsRow V.heap.size 34 2 (.slice A' (sides.length + 1) c') (sides.length + 1) (cs ++ [.int .i64 t.kind, .slice At t.args.length ct])) (hat : (Value.slice A' (sides.length + 1) c').ownBlock = (Value.slice AA sides.length ak).ownBlock ∨ (Value.slice A' (sides.length + 1) c').ownBlock = some ((w5.alloc o1).alloc o2).heap.size) :
    EvL (w7.setCell ⟨w5.heap.size, 2, none⟩ (.slice A' (sides.length + 1) c')) (.agg #[.int .i64 it.kind, .slice IA it.args.length ik, .slice A' (sides ++ [t]).length c']) it (sides ++ [t]) := by
 obtain ⟨dt, ht⟩ := htt
 have hlt := hown.lt
 have hs2 : ((w5.alloc o1).alloc o2).heap.size = w5.heap.size + 2 := by simp
 have hs7 := hg.size
 have hsz : ∀ (W : World) (p : Addr) (u : Value), (W.setCell p u).heap.size = W.heap.size := fun W p u => by simp [World.setCell]
 have far : ∀ b, b < w5.heap.size → some b ≠ (Value.slice AA sides.length ak).ownBlock → (w7.setCell ⟨w5.heap.size, 2, none⟩ (.slice A' (sides.length + 1) c')).heap[b]? = w5.heap[b]? := fun b hb1 hne => by
  rw [Below.heap_setCell _ _ _ _ (by show b ≠ w5.heap.size; omega), hg.block b (by omega) hne, Below.heap_alloc _ _ _ (by simp; omega), Below.heap_alloc _ _ _ hb1]
 have hl : (sides ++ [t]).length = sides.length + 1 := by simp
 refine ⟨IA, ik, A', c', max D dt, rfl, ty_more D _ (Nat.le_max_left ..) (hT.move fun b hb1 hb2 => ⟨by rw [hsz]; omega, fun _ => World.cell?_of_block (far b hb2 hb1.2)⟩), fun _ => ?_⟩
 have hcl : cs.length = sides.length * 2 := hown.1
 rcases hown7.2 with ⟨e, h0⟩ | ⟨g, cap, cur, e, hbg, hgc, hnc, _⟩
 · injection e with e1 e2 e3
   omega
 · injection e with e1 e2 e3
   subst e1
   have hgl := cell_lt hgc
   have hgne : g ≠ w5.heap.size := by
    rcases hat with h | h
    · have := (hlt g (h.symm.trans rfl)).2; omega
    · have h9 : some g = some ((w5.alloc o1).alloc o2).heap.size := h
      injection h9 with h9; omega
   refine ⟨g, 0, rfl, by rw [hsz]; exact hgl, fun j a ha => ?_⟩
   have hgF : ∀ o, (w7.setCell ⟨w5.heap.size, 2, none⟩ (.slice (some ⟨g, 0, none⟩) (sides.length + 1) c')).cell? ⟨g, o, none⟩ = w7.cell? ⟨g, o, none⟩ := fun o => World.cell?_of_block (Below.heap_setCell _ _ _ _ (by show g ≠ w5.heap.size; exact hgne))
   have hjl := (List.getElem?_eq_some_iff.1 ha).1
   rcases Nat.lt_or_ge j sides.length with hj | hj
   · rw [List.getElem?_append_left hj] at ha
     obtain ⟨u0, u1, g0, g1, g2⟩ := hargs j a ha
     refine ⟨u0, u1, ?_, ?_, ty_more D _ (Nat.le_max_left ..) (g2.move fun b hb1 hb2 => ⟨by rw [hsz]; omega, fun _ => World.cell?_of_block (far b hb2 hb1.2)⟩)⟩
     · rw [Nat.zero_add, hgF, hown7.cellAt _ (by first | omega | (simp; done) | (simp; omega)), List.getElem?_append_left (by omega)]; exact g0
     · rw [Nat.zero_add, hgF, hown7.cellAt _ (by first | omega | (simp; done) | (simp; omega)), List.getElem?_append_left (by omega)]; exact g1
   · obtain rfl : j = sides.length := by omega
     rw [List.getElem?_append_right (Nat.le_refl _), Nat.sub_self] at ha
     injection ha with ha
     subst ha
     refine ⟨_, _, ?_, ?_, ty_more dt _ (Nat.le_max_right ..) (ht.move fun b hb1 _ => ⟨by rw [hsz]; omega, fun _ => World.cell?_of_block ((far b (by omega) (fun e => by have := (hlt b e.symm).1; omega)).trans (hb.block b hb1))⟩)⟩
     · rw [Nat.zero_add, hgF, hown7.cellAt _ (by first | omega | (simp; done) | (simp; omega)), List.getElem?_append_right (by omega)]; simp [show sides.length * 2 - cs.length = 0 by omega]
     · rw [Nat.zero_add, hgF, hown7.cellAt _ (by first | omega | (simp; done) | (simp; omega)), List.getElem?_append_right (by omega)]; simp [show sides.length * 2 + 1 - cs.length = 1 by omega]
theorem right_more {it t : Ty} {sides : List Ty} (h : rightE it sides = true) (ht : RT t) (hl : sides.length ≤ 8) : rightE it (sides ++ [t]) = true := by
 unfold rightE at h ⊢
 simp only [Bool.and_eq_true, Bool.not_eq_true', decide_eq_false_iff_not, decide_eq_true_eq] at h ⊢
 obtain ⟨h1, _, h3⟩ := h
 refine ⟨h1, by simp; omega, ?_⟩
 have aux : ∀ (l : List Ty) (j : Nat), ¬ (0 ≤ ixW j l) → ¬ (0 ≤ ixW j (l ++ [t])) := fun l => by
  induction l with
  | nil =>
    intro j _
    have ht' : (Knd.measureT 6 t).isSome = true := ht
    simp [ixW, ht']
  | cons a l ih =>
    intro j hj
    simp only [List.cons_append]
    unfold ixW at hj ⊢
    split at hj
    · rename_i hm
      rw [if_pos hm]
      exact ih _ hj
    · omega
 exact aux _ _ h3
