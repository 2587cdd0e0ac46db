import Derived.Test.YtaecndmncpfpfaaGreatDoorFc
import Derived.Test.YtaecndmncpfpfaaGreatDoorKm
import Derived.KernelRfl
import Derived.Test.YtaecndmncpfpfaaGreatDoorCh
import Derived.Test.YtaecndmncpfpfaaGreatDoorOfn
import Derived.Deep.RegionHeld3
import Derived.Deep.QuietTactic
import Derived.BigQuiet
import Derived.Test.YtaecndmncpfpfaaGreatDoorCw
import Derived.Test.YtaecndmncpfpfaaGreatDoorEw
import Derived.Deep.CutRange
set_option linter.unusedVariables false
set_option linter.unusedSimpArgs false
namespace Go.Proofs.YtaecndmncpfpfaaGreatDoor.Knd
open Go.RowKit
theorem eqL_self (f : Ty → Ty → Bool) : ∀ l : List Ty, (∀ a ∈ l, f a a = true) → eqL f l l = true
 | [], _ => rfl
 | a :: l, h => by
   simp only [eqL, Bool.and_eq_true]
   exact ⟨h a (List.mem_cons_self ..), eqL_self f l (fun b hb => h b (List.mem_cons_of_mem _ hb))⟩
theorem eqT_self : ∀ (r : Nat) (t : Ty) (q : Nat), zH r t = some q → eqT r t t = true
 | 0, t, q, h => by simp [zH] at h
 | r + 1, t, q, h => by
   obtain ⟨x, _, _, _, hall⟩ := measure_right h
   simp only [eqT, beq_self_eq_true, Bool.true_and]
   exact eqL_self _ _ fun a ha => by
    obtain ⟨q', hq⟩ := hall a ha
    exact eqT_self r a q' hq
end Go.Proofs.YtaecndmncpfpfaaGreatDoor.Knd
namespace Go.Proofs.YtaecndmncpfpfaaGreatDoor.L5
open Go.RowKit
theorem rt_same {t : Ty} (h : RT t) : Knd.sameT t t = true := by
 obtain ⟨q, hq⟩ := Option.isSome_iff_exists.1 h
 unfold Knd.sameT
 rw [h, Knd.eqT_self 6 t q hq]
 rfl
end Go.Proofs.YtaecndmncpfpfaaGreatDoor.L5
set_option linter.unusedVariables false
set_option linter.unusedSimpArgs false
namespace Go.Proofs.YtaecndmncpfpfaaGreatDoor.Knd
open Go.RowKit
def wordStr (k : Int) : ByteArray := ((wordK k).map (·.name)).getD ⟨#[]⟩
theorem word_cases (k : Int) : (k = 1 ∨ k = 2 ∨ k = 3 ∨ k = 4 ∨ k = 5 ∨ k = 6 ∨ k = 7 ∨ k = 9) ∨ (k ≠ 1 ∧ k ≠ 2 ∧ k ≠ 3 ∧ k ≠ 4 ∧ k ≠ 5 ∧ k ≠ 6 ∧ k ≠ 7 ∧ k ≠ 9) := by omega
theorem wordStr_other {k : Int} (h : k ≠ 1 ∧ k ≠ 2 ∧ k ≠ 3 ∧ k ≠ 4 ∧ k ≠ 5 ∧ k ≠ 6 ∧ k ≠ 7 ∧ k ≠ 9) : wordK k = none := by
 unfold wordK
 rw [List.find?_eq_none]
 intro x hx
 simp only [words, List.mem_cons, List.not_mem_nil, or_false] at hx
 rcases hx with rfl | rfl | rfl | rfl | rfl | rfl | rfl | rfl <;> simp [w1, w2, w3, w4, w5, w6, w7, w9] <;> omega
set_option maxRecDepth 100000 in
set_option maxHeartbeats 400000 in
theorem word_any (k : Int) (w : World) : Calls Tryz.prog 46 #[.int .i64 k] w fun e w' => e = .returned (.string (wordStr k)) ∧ w = w' := by
 rcases word_cases k with (rfl | rfl | rfl | rfl | rfl | rfl | rfl | rfl) | h
 · go_enter Tryz.func46, Tryz.ntmps46; go_wp2_with (fail); go_ret; exact ⟨rfl, rfl⟩
 · go_enter Tryz.func46, Tryz.ntmps46; go_wp2_with (fail); go_ret; exact ⟨rfl, rfl⟩
 · go_enter Tryz.func46, Tryz.ntmps46; go_wp2_with (fail); go_ret; exact ⟨rfl, rfl⟩
 · go_enter Tryz.func46, Tryz.ntmps46; go_wp2_with (fail); go_ret; exact ⟨rfl, rfl⟩
 · go_enter Tryz.func46, Tryz.ntmps46; go_wp2_with (fail); go_ret; exact ⟨rfl, rfl⟩
 · go_enter Tryz.func46, Tryz.ntmps46; go_wp2_with (fail); go_ret; exact ⟨rfl, rfl⟩
 · go_enter Tryz.func46, Tryz.ntmps46; go_wp2_with (fail); go_ret; exact ⟨rfl, rfl⟩
 · go_enter Tryz.func46, Tryz.ntmps46; go_wp2_with (fail); go_ret; exact ⟨rfl, rfl⟩
 · have HW : Hid (wordStr k = ⟨#[]⟩) := by show _ = _; simp only [wordStr, wordStr_other h]; rfl
   obtain ⟨h1, h2, h3, h4, h5, h6, h7, h9⟩ := h
   have g1 : (k == 1) = false := by simp [h1]
   have g2 : (k == 2) = false := by simp [h2]
   have g3 : (k == 3) = false := by simp [h3]
   have g4 : (k == 4) = false := by simp [h4]
   have g5 : (k == 5) = false := by simp [h5]
   have g6 : (k == 6) = false := by simp [h6]
   have g7 : (k == 7) = false := by simp [h7]
   have g9 : (k == 9) = false := by simp [h9]
   clear h1 h2 h3 h4 h5 h6 h7 h9
   go_enter Tryz.func46, Tryz.ntmps46
   go_wp2_with (fail)
   go_ret
   rw [HW.out]
   exact ⟨rfl, rfl⟩
end Go.Proofs.YtaecndmncpfpfaaGreatDoor.Knd
namespace Go.Proofs.YtaecndmncpfpfaaGreatDoor.L5
open Go.RowKit
end Go.Proofs.YtaecndmncpfpfaaGreatDoor.L5
set_option linter.unusedVariables false
set_option linter.unusedSimpArgs false
namespace Go.Proofs.YtaecndmncpfpfaaGreatDoor.L5
open Go.RowKit
def NdR (lo hi : Nat) (W : World) (v : Value) (n : Nd) : Prop := ∃ d, NdAt W (fun b => lo ≤ b ∧ b < hi) d v n
theorem NdR.move {lo hi : Nat} {W W' : World} {v : Value} {n : Nd} (h : NdR lo hi W v n) (hk : ∀ b, lo ≤ b → b < hi → b < W.heap.size → W'.heap[b]? = W.heap[b]?) : NdR lo hi W' v n := by
 obtain ⟨d, h⟩ := h
 exact ⟨d, NdAt.move (fun b hb hl => ⟨hb, fun _ => World.cell?_of_block (hk b hb.1 hb.2 hl)⟩) d _ _ h⟩
theorem NdR.below {lo hi : Nat} {W W' : World} {v : Value} {n : Nd} (h : NdR lo hi W v n) (hb : Below W.heap.size W W') : NdR lo hi W' v n := h.move fun b _ _ hl => hb.block b hl
theorem NdR.set {lo hi : Nat} {W : World} {v : Value} {n : Nd} (h : NdR lo hi W v n) {g i : Nat} {u : Value} (hg : g < lo ∨ hi ≤ g) : NdR lo hi (W.setCell ⟨g, i, none⟩ u) v n := h.move fun b h1 h2 _ => Below.heap_setCell _ _ _ _ (by show b ≠ g; omega)
theorem NdR.toL {lo hi : Nat} {W : World} {v : Value} {n : Nd} (h : NdR lo hi W v n) (hl : hi ≤ W.heap.size) : NdL W v n := by
 obtain ⟨d, h⟩ := h
 exact ⟨d, NdAt.move (fun b hb _ => ⟨Nat.lt_of_lt_of_le hb.2 hl, fun _ => rfl⟩) d _ _ h⟩
theorem node_law2 {w : World} {v : Value} {n : Nd} (h : NdL w v n) (hn : NarN 60 n) : Calls Tryz.prog 12 #[v] w fun e w' => (∃ A c K k, e = .returned (.agg #[.string ⟨n.op.toArray⟩, .int .i64 n.int, .string ⟨n.text.toArray⟩, .int .i64 n.ty.kind, .slice A n.ty.args.length c, .slice K n.kids.length k]) ∧ NdR w.heap.size w'.heap.size w' (.agg #[.string ⟨n.op.toArray⟩, .int .i64 n.int, .string ⟨n.text.toArray⟩, .int .i64 n.ty.kind, .slice A n.ty.args.length c, .slice K n.kids.length k]) n) ∧ Below w.heap.size w w' := by
 obtain ⟨d, h⟩ := h
 refine (of_any d 60 _ v n w hn h).mono ?_
 rintro e w' ⟨⟨v', he, h'⟩, hb⟩
 obtain ⟨A, c, K, k, rfl⟩ := h'.form
 exact ⟨⟨A, c, K, k, he, d, NdAt.move (fun b hb hl => ⟨⟨hb, hl⟩, fun _ => rfl⟩) d _ _ h'⟩, hb⟩
theorem small_law {W : World} {v : Value} {n : Nd} {it : Ty} {sides : List Ty} {EA SA : Option Addr} {ek sk : Nat} (hN : NdL W v n) (hE : EvL W (.agg #[.int .i64 it.kind, .slice EA it.args.length ek, .slice SA sides.length sk]) it sides) :
    Calls Tryz.prog 9 #[v, .agg #[.int .i64 it.kind, .slice EA it.args.length ek, .slice SA sides.length sk]] W fun e w' => (∃ b, e = .returned (.bool b) ∧ (b = true → FewN 60 n ∧ SmE it sides)) ∧ Below W.heap.size W w' := by
 obtain ⟨d, hN⟩ := hN
 obtain ⟨A', k', SA', sk', D, e, h1, h2⟩ := hE
 injection e with e
 injection e with e
 injection e with e1 e2
 injection e2 with e2 e3
 injection e3 with e3 e4
 injection e2 with e5 e6 e7
 injection e3 with e8 e9 e10
 subst e5 e7 e8 e10
 exact small_any d D _ n it sides _ _ _ _ W hN h1 h2
structure Bxs (W : World) (q1 q2 q3 q4 : Nat) (a b c e : Array Value) : Prop where
 b1 : W.heap[q1]? = some (.cells a 27 (0, 0))
 b2 : W.heap[q2]? = some (.cells b 27 (0, 0))
 b3 : W.heap[q3]? = some (.cells c 27 (0, 0))
 b4 : W.heap[q4]? = some (.cells e 29 (0, 0))
theorem Bxs.below {W W' : World} {q1 q2 q3 q4 : Nat} {a b c e : Array Value} (h : Bxs W q1 q2 q3 q4 a b c e) (hb : Below W.heap.size W W') : Bxs W' q1 q2 q3 q4 a b c e :=
 ⟨(hb.block _ (zC h.b1)).trans h.b1, (hb.block _ (zC h.b2)).trans h.b2, (hb.block _ (zC h.b3)).trans h.b3, (hb.block _ (zC h.b4)).trans h.b4⟩
theorem res_right {it : Ty} {sides : List Ty} {n : Nd} {t : Ty} (h : rightE it sides = true) (hr : resI it sides n = .ok t) : RT t :=
 inferT_right zS it sides (rightE_spec h).1 (rightE_spec h).2 24 [] [] n t (by simp) hr
theorem infR_true {it : Ty} {sides : List Ty} {r : Except (Int × List Int) Ty} (h : rightE it sides = true) : infR true it sides r = r := by
 unfold infR
 rw [if_pos rfl, if_pos h]
theorem BoxA.below {R : Except (Int × List Int) Ty} {lo : Nat} {W W' : World} {v : Value} (h : BoxA R lo W v) (hb : Below W.heap.size W W') : BoxA R lo W' v := by
 obtain ⟨q, kd, A, l, c, rfl, h1, h2, h3, h4⟩ := h
 exact ⟨q, kd, A, l, c, rfl, h1, (hb.block _ (zC h2)).trans h2, h3, h4.below hb⟩
theorem Bxs.drew {W : World} {q1 q2 q3 q4 : Nat} {a b c e : Array Value} (h : Bxs W q1 q2 q3 q4 a b c e) : Bxs W.drew q1 q2 q3 q4 a b c e := ⟨h.b1, h.b2, h.b3, h.b4⟩
