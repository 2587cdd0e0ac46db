import Derived.Test.YtaecndmncpfpfaaGreatDoorEj
import Derived.Test.YtaecndmncpfpfaaGreatDoorEv
import Derived.Test.YtaecndmncpfpfaaGreatDoorSzp
import Derived.KernelRfl
import Derived.Maps.AppendAt
set_option linter.unusedVariables false
set_option linter.unusedSimpArgs false
namespace Go.Proofs.YtaecndmncpfpfaaGreatDoor.L5
open Go.RowKit
theorem args_in {w : World} {P : Nat → Prop} {d : Nat} {A : Option Addr} {l : List Ty} (h : Knd.yE w P d A l) : Knd.yE w (fun b => b < w.heap.size) d A l := fun hl => by
 obtain ⟨b, o, h1, h2, h3⟩ := h hl
 obtain ⟨u0, u1, g0, _, _⟩ := h3 0 _ (List.getElem?_eq_getElem hl)
 refine ⟨b, o, h1, World.block_lt_of_cell? w _ g0, fun j a ha => ?_⟩
 obtain ⟨u0, u1, g0, g1, g2⟩ := h3 j a ha
 exact ⟨u0, u1, g0, g1, g2.move fun b _ hl => ⟨hl, fun _ => rfl⟩⟩
theorem infer_law0 (S PE : Nat → Prop) (dn d : Nat) (nv : Value) (n : Nd) (it : Ty) (sides : List Ty) (A SA : Option Addr) (k sk : Nat) (w : World) (hN : NdAt w S dn nv n) (hR : RgN 24 n) (hS : ∀ k, S k → k < w.heap.size) (hPE : ∀ k, PE k → k < w.heap.size)
    (hT : TyAt w PE d (.agg #[.int .i64 it.kind, .slice A it.args.length k]) it) (hA : Knd.yE w PE d SA sides) (hG : Gl w) :
    Calls Tryz.prog 11 #[nv, .agg #[.int .i64 it.kind, .slice A it.args.length k, .slice SA sides.length sk]] w fun e w' => InfOut w w' e (infR (showW n).isSome it sides (resI it sides n)) ∧ Below w.heap.size w w' := by
 refine Infer_any zS FOk formsC 24 (by omega) n S PE dn d nv it sides A SA k sk (showW n).isSome w hN hS hPE hT hA hG.kd (fun h => show_inf h) ?_
 intro w1 hb1
 refine (exprCheck_any dn S nv n w1 (hN.below hb1) hR (hG.below hb1 hG.lt2)).mono ?_
 rintro e w2 ⟨he, hb2⟩
 refine ⟨?_, hb2⟩
 cases hs : showW n with
 | none => rw [hs] at he; exact he
 | some x => rw [hs] at he; exact he
def IsL (lo : Nat) (w : World) (v : Value) (l : List Int) : Prop := ∃ a c, v = .slice a l.length c ∧ l.length ≤ c ∧ (0 < l.length → ∃ b o, a = some ⟨b, o, none⟩ ∧ lo ≤ b ∧ b < w.heap.size ∧ ∀ j x, l[j]? = some x → w.cell? ⟨b, o + j, none⟩ = some (.int .i64 x))
theorem IsL.move {lo lo' : Nat} {w w' : World} {v : Value} {l : List Int} (h : IsL lo w v l) (hb : ∀ b, lo ≤ b → b < w.heap.size → lo' ≤ b ∧ b < w'.heap.size ∧ w'.heap[b]? = w.heap[b]?) : IsL lo' w' v l := by
 obtain ⟨a, c, hv, hc, h⟩ := h
 refine ⟨a, c, hv, hc, fun hl => ?_⟩
 obtain ⟨b, o, ha, hlo, hlt, hj⟩ := h hl
 obtain ⟨h1, h2, h3⟩ := hb b hlo hlt
 exact ⟨b, o, ha, h1, h2, fun j x hx => (World.cell?_of_block (a := ⟨b, o + j, none⟩) h3).trans (hj j x hx)⟩
theorem IsL.below {lo : Nat} {w w' : World} {v : Value} {l : List Int} (h : IsL lo w v l) (hb : Below w.heap.size w w') : IsL lo w' v l :=
 h.move fun b h1 h2 => ⟨h1, by have := hb.size; omega, hb.block b h2⟩
theorem IsL.own {w : World} {B : Nat} {e : TypeId} {v : Value} {l : List Int} (h : w.ownsRow B e 1 v l.length (l.map fun p => .int .i64 p)) : IsL B w v l := by
 have hc := fun g hg => h.cells (g := g) hg
 rcases h.2 with ⟨rfl, h0⟩ | ⟨g, cap, cur, rfl, hbg, hg, hnc, _⟩
 · obtain rfl : l = [] := List.length_eq_zero_iff.1 h0
   exact ⟨none, 0, rfl, Nat.le_refl _, fun h => absurd h (Nat.lt_irrefl _)⟩
 · refine ⟨some ⟨g, 0, none⟩, cap, rfl, hnc, fun _ => ⟨g, 0, rfl, hbg, zC hg, fun j x hx => ?_⟩⟩
   have a0 := hc g rfl j (.int .i64 x) (by rw [List.getElem?_map, hx]; rfl)
   have had : (⟨g, 0, none⟩ : Addr).add j = ⟨g, j, none⟩ := by unfold Addr.add; split <;> simp_all
   rw [had] at a0
   rw [Nat.zero_add]
   exact a0
def NdL (w : World) (v : Value) (n : Nd) : Prop := ∃ d, NdAt w (fun b => b < w.heap.size) d v n
def TyL (w : World) (v : Value) (t : Ty) : Prop := ∃ d, TyAt w (fun b => b < w.heap.size) d v t
def TyN (lo : Nat) (w : World) (v : Value) (t : Ty) : Prop := ∃ d, TyAt w (fun b => lo ≤ b ∧ b < w.heap.size) d v t
theorem TyN.tyL {lo : Nat} {w : World} {v : Value} {t : Ty} (h : TyN lo w v t) : TyL w v t := by
 obtain ⟨d, h⟩ := h
 exact ⟨d, h.move fun b hb _ => ⟨hb.2, fun _ => rfl⟩⟩
theorem TyN.move {lo lo' : Nat} {w w' : World} {v : Value} {t : Ty} (h : TyN lo w v t) (hb : ∀ b, lo ≤ b → b < w.heap.size → lo' ≤ b ∧ b < w'.heap.size ∧ w'.heap[b]? = w.heap[b]?) : TyN lo' w' v t := by
 obtain ⟨d, h⟩ := h
 exact ⟨d, h.move fun b hb1 _ => ⟨⟨(hb b hb1.1 hb1.2).1, (hb b hb1.1 hb1.2).2.1⟩, fun _ => World.cell?_of_block (hb b hb1.1 hb1.2).2.2⟩⟩
def EvL (w : World) (v : Value) (it : Ty) (sides : List Ty) : Prop := ∃ A k SA sk D, v = .agg #[.int .i64 it.kind, .slice A it.args.length k, .slice SA sides.length sk] ∧ TyAt w (fun b => b < w.heap.size) D (.agg #[.int .i64 it.kind, .slice A it.args.length k]) it ∧ Knd.yE w (fun b => b < w.heap.size) D SA sides
theorem NdL.below {w w' : World} {v : Value} {n : Nd} (h : NdL w v n) (hb : Below w.heap.size w w') : NdL w' v n := by
 obtain ⟨d, h⟩ := h
 exact ⟨d, h.move (fun b hb1 _ => ⟨by have := hb.size; omega, fun _ => World.cell?_of_block (hb.block b hb1)⟩) d _ _⟩
theorem TyL.below {w w' : World} {v : Value} {t : Ty} (h : TyL w v t) (hb : Below w.heap.size w w') : TyL w' v t := by
 obtain ⟨d, h⟩ := h
 exact ⟨d, h.move fun b hb1 _ => ⟨by have := hb.size; omega, fun _ => World.cell?_of_block (hb.block b hb1)⟩⟩
theorem EvL.below {w w' : World} {v : Value} {it : Ty} {sides : List Ty} (h : EvL w v it sides) (hb : Below w.heap.size w w') : EvL w' v it sides := by
 obtain ⟨A, k, SA, sk, D, hv, h1, h2⟩ := h
 exact ⟨A, k, SA, sk, D, hv, h1.move fun b hb1 _ => ⟨by have := hb.size; omega, fun _ => World.cell?_of_block (hb.block b hb1)⟩, args_mv h2 fun b hb1 => ⟨by have := hb.size; omega, hb.block b hb1⟩⟩
theorem NdL.form {w : World} {v : Value} {n : Nd} (h : NdL w v n) : ∃ A c K k, v = .agg #[.string ⟨n.op.toArray⟩, .int .i64 n.int, .string ⟨n.text.toArray⟩, .int .i64 n.ty.kind, .slice A n.ty.args.length c, .slice K n.kids.length k] := by
 obtain ⟨d, h⟩ := h
 exact h.form
theorem TyL.form {w : World} {v : Value} {t : Ty} (h : TyL w v t) : ∃ A c, v = .agg #[.int .i64 t.kind, .slice A t.args.length c] := by
 obtain ⟨d, h⟩ := h
 exact h.form
theorem EvL.form {w : World} {v : Value} {it : Ty} {sides : List Ty} (h : EvL w v it sides) : ∃ A k SA sk, v = .agg #[.int .i64 it.kind, .slice A it.args.length k, .slice SA sides.length sk] := by
 obtain ⟨A, k, SA, sk, D, hv, _⟩ := h
 exact ⟨A, k, SA, sk, hv⟩
theorem env_law {w : World} {v : Value} {it : Ty} {sides : List Ty} (h : EvL w v it sides) (hs : SmE it sides) : Calls Tryz.prog 13 #[v] w fun e w' => (∃ v', e = .returned v' ∧ EvL w' v' it sides) ∧ Below w.heap.size w w' := by
 obtain ⟨A, k, SA, sk, D, rfl, h1, h2⟩ := h
 refine (env_any D it sides A SA k sk w h1 h2 hs).mono ?_
 rintro e w' ⟨⟨A', k', SA', sk', D', he, g1, g2⟩, hb⟩
 exact ⟨⟨_, he, A', k', SA', sk', D', rfl, g1.move fun b _ hl => ⟨hl, fun _ => rfl⟩, args_in g2⟩, hb⟩
def InfL (res : Except (Int × List Int) Ty) (lo : Nat) (w' : World) (e : Ending) : Prop := ∃ tv av no, e = .returned (.tuple #[tv, av, .int .i64 no]) ∧
 match res with
 | .error (c, qs) => no = c ∧ c ≠ 0 ∧ tv = .agg #[.int .i64 0, .slice none 0 0] ∧ IsL lo w' av qs
 | .ok t => no = 0 ∧ av = .slice none 0 0 ∧ TyN lo w' tv t
theorem infer_law {w : World} {nv ev : Value} {n : Nd} {it : Ty} {sides : List Ty} (hN : NdL w nv n) (hE : EvL w ev it sides) (hR : RgN 24 n) (hG : Gl w) :
    Calls Tryz.prog 11 #[nv, ev] w fun e w' => InfL (infR (showW n).isSome it sides (resI it sides n)) w.heap.size w' e ∧ Below w.heap.size w w' := by
 obtain ⟨d, hN⟩ := hN
 obtain ⟨A, k, SA, sk, D, rfl, h1, h2⟩ := hE
 refine (infer_law0 _ _ d D nv n it sides A SA k sk w hN hR (fun _ h => h) (fun _ h => h) h1 h2 hG).mono ?_
 rintro e w' ⟨h, hb⟩
 refine ⟨?_, hb⟩
 cases hr : infR (showW n).isSome it sides (resI it sides n) with
 | error x =>
   obtain ⟨no, qs⟩ := x
   rw [hr] at h
   obtain ⟨h0, av, he, ho⟩ := h
   exact ⟨_, av, no, he, rfl, h0, rfl, IsL.own ho⟩
 | ok t =>
   rw [hr] at h
   obtain ⟨v, he, ht⟩ := h
   exact ⟨v, _, 0, he, rfl, rfl, 6, ht.move fun b hb hl => ⟨⟨hb, hl⟩, fun _ => rfl⟩⟩
end Go.Proofs.YtaecndmncpfpfaaGreatDoor.L5
set_option linter.unusedVariables false
set_option linter.unusedSimpArgs false
namespace Go.Proofs.YtaecndmncpfpfaaGreatDoor.L5
open Go.RowKit
end Go.Proofs.YtaecndmncpfpfaaGreatDoor.L5
set_option linter.unusedVariables false
set_option linter.unusedSimpArgs false
namespace Go.Proofs.YtaecndmncpfpfaaGreatDoor.L5
open Go.RowKit
theorem nd_more {w : World} {S : Nat → Prop} : ∀ (d e : Nat) (v : Value) (n : Nd), d ≤ e → NdAt w S d v n → NdAt w S e v n
 | 0, _, _, _, _, h => h.elim
 | d + 1, 0, _, _, h, _ => by omega
 | d + 1, e + 1, v, n, hle, ⟨A, c, K, k, hv, ht, hlk, h⟩ => ⟨A, c, K, k, hv, ht, hlk, fun hl => by
     obtain ⟨b, o, hK, hS, hj⟩ := h hl
     refine ⟨b, o, hK, hS, fun j a ha => ?_⟩
     obtain ⟨u0, u1, u2, u3, u4, u5, h0, h1, h2, h3, h4, h5, h6⟩ := hj j a ha
     exact ⟨u0, u1, u2, u3, u4, u5, h0, h1, h2, h3, h4, h5, nd_more d e _ _ (by omega) h6⟩⟩
def KidA (W : World) (S : Nat → Prop) (D g j : Nat) (a : Nd) : Prop := ∃ u0 u1 u2 u3 u4 u5, W.cell? ⟨g, 0 + j * 6, none⟩ = some u0 ∧ W.cell? ⟨g, 0 + j * 6 + 1, none⟩ = some u1 ∧ W.cell? ⟨g, 0 + j * 6 + 2, none⟩ = some u2 ∧ W.cell? ⟨g, 0 + j * 6 + 3, none⟩ = some u3 ∧ W.cell? ⟨g, 0 + j * 6 + 4, none⟩ = some u4 ∧ W.cell? ⟨g, 0 + j * 6 + 5, none⟩ = some u5 ∧ NdAt W S D (.agg #[u0, u1, u2, u3, u4, u5]) a
theorem KidA.more {W : World} {S : Nat → Prop} {D E g j : Nat} {a : Nd} (h : KidA W S D g j a) (hle : D ≤ E) : KidA W S E g j a := by
 obtain ⟨u0, u1, u2, u3, u4, u5, h0, h1, h2, h3, h4, h5, h6⟩ := h
 exact ⟨u0, u1, u2, u3, u4, u5, h0, h1, h2, h3, h4, h5, nd_more D E _ _ hle h6⟩
theorem kid_of {W : World} {g j : Nat} {a : Nd} {xs : Array Value} {t : TypeId} {u0 u1 u2 u3 u4 u5 : Value} (h : W.heap[g]? = some (.cells xs t (0, 0))) (h0 : xs[0 + j * 6]? = some u0) (h1 : xs[0 + j * 6 + 1]? = some u1) (h2 : xs[0 + j * 6 + 2]? = some u2) (h3 : xs[0 + j * 6 + 3]? = some u3) (h4 : xs[0 + j * 6 + 4]? = some u4) (h5 : xs[0 + j * 6 + 5]? = some u5)
    (hN : NdL W (.agg #[u0, u1, u2, u3, u4, u5]) a) : ∃ D, KidA W (fun b => b < W.heap.size) D g j a := by
 obtain ⟨D, hN⟩ := hN
 exact ⟨D, u0, u1, u2, u3, u4, u5, zD h h0, zD h h1, zD h h2, zD h h3, zD h h4, zD h h5, hN⟩
def InfA (res : Except (Int × List Int) Ty) (lo : Nat) (W : World) (av ev : Value) : Prop :=
 match res with
 | .error (c, qs) => ev = .int .i64 c ∧ c ≠ 0 ∧ IsL lo W av qs
 | .ok t => ev = .int .i64 0 ∧ av = .slice none 0 0
theorem InfA.move {res : Except (Int × List Int) Ty} {lo lo' : Nat} {w w' : World} {av ev : Value} (h : InfA res lo w av ev) (hb : ∀ b, lo ≤ b → b < w.heap.size → lo' ≤ b ∧ b < w'.heap.size ∧ w'.heap[b]? = w.heap[b]?) : InfA res lo' w' av ev := by
 cases res with
 | error x => obtain ⟨c, qs⟩ := x; exact ⟨h.1, h.2.1, h.2.2.move hb⟩
 | ok t => exact h
theorem InfA.below {res : Except (Int × List Int) Ty} {lo : Nat} {w w' : World} {av ev : Value} (h : InfA res lo w av ev) (hb : Below w.heap.size w w') : InfA res lo w' av ev :=
 h.move fun b h1 h2 => ⟨h1, by have := hb.size; omega, hb.block b h2⟩
theorem InfA.down {res : Except (Int × List Int) Ty} {lo lo' : Nat} {w : World} {av ev : Value} (h : InfA res lo w av ev) (hb : lo' ≤ lo) : InfA res lo' w av ev :=
 h.move fun b h1 h2 => ⟨by omega, h2, rfl⟩
theorem InfA.set {res : Except (Int × List Int) Ty} {lo g i : Nat} {w : World} {v av ev : Value} (h : InfA res lo w av ev) (hg : g < lo) : InfA res lo (w.setCell ⟨g, i, none⟩ v) av ev :=
 h.move fun b h1 h2 => ⟨h1, by simpa [World.setCell] using h2, Below.heap_setCell _ _ _ _ (by show b ≠ g; omega)⟩
theorem bl_tr {a b c : World} (h1 : Below a.heap.size a b) (h2 : Below b.heap.size b c) : Below a.heap.size a c := h1.trans (h2.mono h1.size)
theorem bl_al {a b : World} (h : Below a.heap.size a b) (o : Obj) : Below a.heap.size a (b.alloc o) := h.alloc h.size o
theorem bl_dr {a b : World} (h : Below a.heap.size a b) : Below a.heap.size a b.drew := h.drew
theorem bl_set {a b : World} {g i : Nat} {v : Value} (h : Below a.heap.size a b) (hp : a.heap.size ≤ g) : Below a.heap.size a (b.setCell ⟨g, i, none⟩ v) := h.setCell (p := ⟨g, i, none⟩) hp _
def tyR (R : Except (Int × List Int) Ty) : Ty := match R with
 | .error _ => ty0
 | .ok t => t
theorem InfL.open {R : Except (Int × List Int) Ty} {lo : Nat} {w : World} {e : Ending} (h : InfL R lo w e) : ∃ kd A l c av no, e = .returned (.tuple #[.agg #[.int .i64 kd, .slice A l c], av, .int .i64 no]) ∧ InfA R lo w av (.int .i64 no) ∧ TyN lo w (.agg #[.int .i64 kd, .slice A l c]) (tyR R) ∧ kd = (tyR R).kind := by
 obtain ⟨tv, av, no, rfl, h⟩ := h
 cases R with
 | error x =>
   obtain ⟨c, qs⟩ := x
   obtain ⟨rfl, h1, rfl, h2⟩ := h
   exact ⟨_, _, _, _, _, _, rfl, ⟨rfl, h1, h2⟩, ⟨1, ty_zero w _⟩, rfl⟩
 | ok t =>
   obtain ⟨rfl, rfl, h2⟩ := h
   obtain ⟨A, c, rfl⟩ := h2.tyL.form
   exact ⟨_, _, _, _, _, _, rfl, ⟨rfl, rfl⟩, h2, rfl⟩
def BoxA (R : Except (Int × List Int) Ty) (lo : Nat) (W : World) (v : Value) : Prop := ∃ q kd A l c, v = .pointer (some ⟨q, 0, none⟩) ∧ lo ≤ q ∧ W.heap[q]? = some (.cells #[.int .i64 kd, .slice A l c] 34 (0, 0)) ∧ kd = (tyR R).kind ∧ TyL W (.agg #[.int .i64 kd, .slice A l c]) (tyR R)
theorem TyN.set {lo g i : Nat} {w : World} {u v : Value} {t : Ty} (h : TyN lo w v t) (hg : g < lo) : TyN lo (w.setCell ⟨g, i, none⟩ u) v t :=
 h.move fun b h1 h2 => ⟨h1, by simpa [World.setCell] using h2, Below.heap_setCell _ _ _ _ (by show b ≠ g; omega)⟩
theorem TyN.below {lo : Nat} {w w' : World} {v : Value} {t : Ty} (h : TyN lo w v t) (hb : Below w.heap.size w w') : TyN lo w' v t :=
 h.move fun b h1 h2 => ⟨h1, by have := hb.size; omega, hb.block b h2⟩
theorem keep9b {w0 W : World} {B C : Nat} {a0 a1 a2 a3 a4 a5 e0 e1 e2 : Value} {t u : TypeId} (b0 : w0.heap[B]? = some (.cells #[a0, a1, a2, a3, a4, a5] t (0, 0))) (b1 : w0.heap[C]? = some (.cells #[e0, e1, e2] u (0, 0))) (h : Below w0.heap.size w0 W) :
    W.cell? ⟨B, 0, none⟩ = some a0 ∧ W.cell? ⟨B, 1, none⟩ = some a1 ∧ W.cell? ⟨B, 2, none⟩ = some a2 ∧ W.cell? ⟨B, 3, none⟩ = some a3 ∧ W.cell? ⟨B, 4, none⟩ = some a4 ∧ W.cell? ⟨B, 5, none⟩ = some a5 ∧
    W.cell? ⟨C, 0, none⟩ = some e0 ∧ W.cell? ⟨C, 1, none⟩ = some e1 ∧ W.cell? ⟨C, 2, none⟩ = some e2 ∧ Below w0.heap.size w0 W := by
 have g0 := (h.block _ (zC b0)).trans b0
 have g1 := (h.block _ (zC b1)).trans b1
 exact ⟨zN g0, zR g0, zQ g0, zP g0, zO g0, zL g0, cell3_0 g1, yF g1, cell3_2 g1, h⟩
end Go.Proofs.YtaecndmncpfpfaaGreatDoor.L5
set_option linter.unusedVariables false
set_option linter.unusedSimpArgs false
namespace Go.Proofs.YtaecndmncpfpfaaGreatDoor.L5
open Go.RowKit
def LeP {α : Type} (m : Nat) (x : Except (Int × List Int) α) : Prop := ∀ c qs, x = .error (c, qs) → qs.length ≤ m
theorem LeP.ok {α : Type} {m : Nat} {t : α} : LeP m (.ok t : Except (Int × List Int) α) := fun c qs h => by cases h
theorem LeP.err {α : Type} {m : Nat} {no : Int} {ps : List Int} (h : ps.length ≤ m) : LeP m (.error (no, ps) : Except (Int × List Int) α) := fun c qs e => by injection e with e; injection e with _ e; rw [← e]; exact h
theorem LeP.cast {α β : Type} {m : Nat} {x : Int × List Int} (h : LeP m (.error x : Except (Int × List Int) α)) : LeP m (.error x : Except (Int × List Int) β) := fun c qs e => by injection e with e; exact h c qs (by rw [e])
theorem LeP.bind {m : Nat} {r1 : Except (Int × List Int) Ty} {f : Ty → Except (Int × List Int) Ty} (h1 : LeP m r1) (h2 : ∀ t, LeP m (f t)) : LeP m (bindR r1 f) := by
 cases r1 with
 | error y => exact h1
 | ok t => exact h2 t
theorem LeP.each {m : Nat} {b : Bool} {ps : List Int} {r1 : Except (Int × List Int) Ty} {f : Ty → Except (Int × List Int) Ty} (hp : ps.length ≤ m) (h1 : LeP m r1) (h2 : ∀ t, LeP m (f t)) : LeP m (eachR b ps r1 f) := by
 cases r1 with
 | error y => exact h1
 | ok t =>
   unfold eachR
   simp only
   split
   · have h3 := h2 (t.args.headD ty0)
     cases hf : f (t.args.headD ty0) with
     | error y => rw [hf] at h3; exact h3
     | ok u =>
       unfold eachE
       simp only
       split
       · split
         · exact LeP.ok
         · exact LeP.err hp
       · split
         · exact LeP.ok
         · exact LeP.err hp
   · exact LeP.err hp
theorem LeP.kids {m : Nat} {f : Nat → Except (Int × List Int) Ty} (h : ∀ j, LeP m (f j)) : ∀ (k i : Nat), LeP m (yC f k i)
 | 0, _ => LeP.ok
 | k + 1, i => by
   unfold yC
   have h1 := h i
   have h2 := LeP.kids h k (i + 1)
   cases hf : f i with
   | error y => rw [hf] at h1; exact h1.cast
   | ok t =>
     simp only
     cases hk : yC f k (i + 1) with
     | error y => rw [hk] at h2; exact h2.cast
     | ok ts => exact LeP.ok
