import Derived.Test.YtaecndmncpfpfaaGreatDoorWq
import Derived.Test.YtaecndmncpfpfaaGreatDoorRc3
import Derived.Deep.AppendLies
import Derived.Deep.RegionLaw
namespace Go.Proofs.YtaecndmncpfpfaaGreatDoor
open Go.RowKit
end Go.Proofs.YtaecndmncpfpfaaGreatDoor
namespace Go.Proofs.YtaecndmncpfpfaaGreatDoor
open Go.RowKit
end Go.Proofs.YtaecndmncpfpfaaGreatDoor
namespace Go.Proofs.YtaecndmncpfpfaaGreatDoor
open Go.RowKit
theorem Lo.far {α : Type} {l l' : List UInt8} {p p' : Nat × α} (h : l'.length < p.1) (hp : p.1 ≤ l.length) : Lo l l' p p' := fun hs => by
 have h1 := hs l'.length h
 rw [List.getElem?_eq_none_iff.2 (Nat.le_refl _)] at h1
 have := none_le h1.symm
 omega
structure KpOk (kp : List UInt8 → Nat × Option Ty) : Prop where
 le : ∀ x k, kp x = (k, none) → k ≤ x.length
 agree : ∀ x x' k, kp x = (k, none) → (∀ j, j ≤ k → x'[j]? = x[j]?) → kp x' = (k, none)
 trunc : ∀ x k, kp x = (k, none) → (∃ i t, kp (x.take k) = (i, some t)) ∨ kp (x.take k) = (k, none)
end Go.Proofs.YtaecndmncpfpfaaGreatDoor
namespace Go.Proofs.YtaecndmncpfpfaaGreatDoor
open Go.RowKit
section
variable {kp : List UInt8 → Nat × Option Ty} (K : KpOk kp)
include K
end
end Go.Proofs.YtaecndmncpfpfaaGreatDoor
namespace Go.Proofs.YtaecndmncpfpfaaGreatDoor
open Go.RowKit
section
variable {kp : List UInt8 → Nat × Option Ty}
variable (K : KpOk kp)
include K
end
end Go.Proofs.YtaecndmncpfpfaaGreatDoor
namespace Go.Proofs.YtaecndmncpfpfaaGreatDoor
open Go.RowKit
structure Kp (R P : Nat) (w w' : World) : Prop where
 os : w'.os = w.os
 tape : w'.tape = w.tape
 output : w'.output = w.output
 size : w.heap.size ≤ w'.heap.size
 block : ∀ i, i < P → i ≠ R → w'.heap[i]? = w.heap[i]?
theorem Kp.of_only {R P : Nat} {w w' : World} (h : Only R w w') (hP : P ≤ w.heap.size) : Kp R P w w' := ⟨h.os, h.tape, h.output, h.size, fun i hi hne => h.block i (by omega) (by simpa using hne)⟩
theorem Kp.trans {R P : Nat} {a b c : World} (h : Kp R P a b) (k : Kp R P b c) : Kp R P a c :=
 ⟨k.os.trans h.os, k.tape.trans h.tape, k.output.trans h.output, Nat.le_trans h.size k.size, fun i hi hne => (k.block i hi hne).trans (h.block i hi hne)⟩
theorem Kp.refl (R P : Nat) (w : World) : Kp R P w w := ⟨rfl, rfl, rfl, Nat.le_refl _, fun _ _ _ => rfl⟩
structure PnI (w : World) (P d : Nat) (nd : Nd) (A : Option Addr) (c : Nat) (vs : Value) (cs : List Value) : Prop where
 own : w.ownsRow (P + 1) 41 6 vs nd.kids.length cs
 box : w.heap[P]? = some (.cells #[.string ⟨nd.op.toArray⟩, .int .i64 nd.int, .string ⟨nd.text.toArray⟩, .int .i64 nd.ty.kind, .slice A nd.ty.args.length c, vs] 41 (0, 0))
 ty : ∃ dt, TyAt w (fun b => P < b ∧ some b ≠ vs.ownBlock) dt (.agg #[.int .i64 nd.ty.kind, .slice A nd.ty.args.length c]) nd.ty
 args : ∀ (i : Nat) (a : Nd), nd.kids[i]? = some a → ∃ u0 u1 u2 u3 u4 u5, cs[i * 6]? = some u0 ∧ cs[i * 6 + 1]? = some u1 ∧ cs[i * 6 + 2]? = some u2 ∧ cs[i * 6 + 3]? = some u3 ∧ cs[i * 6 + 4]? = some u4 ∧ cs[i * 6 + 5]? = some u5 ∧ NdAt w (fun b => P < b ∧ some b ≠ vs.ownBlock) d (.agg #[u0, u1, u2, u3, u4, u5]) a
theorem own_put {w : World} {B g n size cap : Nat} {e : TypeId} {xs : List Value} (h : w.ownsRow B e size (.slice (some ⟨g, 0, none⟩) n cap) n xs) {k : Nat} (_hk : k < xs.length) (u : Value) :
    (w.setCell ⟨g, k, none⟩ u).ownsRow B e size (.slice (some ⟨g, 0, none⟩) n cap) n (xs.set k u) := by
 obtain ⟨hl, h2⟩ := h
 refine ⟨by simp [hl], ?_⟩
 rcases h2 with ⟨h0, _⟩ | ⟨g', cap', cur, he, hb, hg, hn, hm, hsz, ht⟩
 · cases h0
 · injection he with he1 he2 he3
   injection he1 with he1
   injection he1 with he1
   subst he1
   subst he3
   refine .inr ⟨g, cap, cur.setIfInBounds k u, rfl, hb, ?_, hn, hm, by simpa using hsz, ?_⟩
   · simp [World.setCell, Array.getElem?_modify, hg]
   · rw [← ht, Array.toList_setIfInBounds, List.take_set]
end Go.Proofs.YtaecndmncpfpfaaGreatDoor
namespace Go.Proofs.YtaecndmncpfpfaaGreatDoor
open Go.RowKit
def Aft (W wx : World) (P n : Nat) (vs : Value) (cs us : List Value) : Prop := ∃ g cap, wx.ownsRow (P + 1) 41 6 (.slice (some ⟨g, 0, none⟩) (n + 1) cap) (n + 1) (cs ++ us) ∧
 (∀ a0 a1 a2 a3 a4, W.heap[P]? = some (.cells #[a0, a1, a2, a3, a4, vs] 41 (0, 0)) → wx.heap[P]? = some (.cells #[a0, a1, a2, a3, a4, .slice (some ⟨g, 0, none⟩) (n + 1) cap] 41 (0, 0))) ∧ (vs.ownBlock = some g ∨ W.heap.size ≤ g) ∧
 wx.os = W.os ∧ wx.tape = W.tape ∧ wx.output = W.output ∧ W.heap.size ≤ wx.heap.size ∧ ∀ k, k < W.heap.size → k ≠ P → some k ≠ vs.ownBlock → wx.heap[k]? = W.heap[k]?
theorem setCell_heap_size (w : World) (p : Addr) (u : Value) : (w.setCell p u).heap.size = w.heap.size := by simp [World.setCell]
theorem own_put6 {w : World} {B g n cap : Nat} {cs : List Value} {z0 z1 z2 z3 z4 z5 : Value} (h : w.ownsRow B 41 6 (.slice (some ⟨g, 0, none⟩) (n + 1) cap) (n + 1) (cs ++ [z0, z1, z2, z3, z4, z5])) (hl : cs.length = n * 6) (u0 u1 u2 u3 u4 u5 : Value) :
    ((((((w.setCell ⟨g, n * 6, none⟩ u0).setCell ⟨g, n * 6 + 1, none⟩ u1).setCell ⟨g, n * 6 + 2, none⟩ u2).setCell ⟨g, n * 6 + 3, none⟩ u3).setCell ⟨g, n * 6 + 4, none⟩ u4).setCell ⟨g, n * 6 + 5, none⟩ u5).ownsRow B 41 6 (.slice (some ⟨g, 0, none⟩) (n + 1) cap) (n + 1) (cs ++ [u0, u1, u2, u3, u4, u5]) := by
 have h0 := own_put h (k := n * 6) (by simp [hl]) u0
 have h1 := own_put h0 (k := n * 6 + 1) (by simp [hl]) u1
 have h2 := own_put h1 (k := n * 6 + 2) (by simp [hl]) u2
 have h3 := own_put h2 (k := n * 6 + 3) (by simp [hl]) u3
 have h4 := own_put h3 (k := n * 6 + 4) (by simp [hl]) u4
 have h5 := own_put h4 (k := n * 6 + 5) (by simp [hl]) u5
 have e : ((((((cs ++ [z0, z1, z2, z3, z4, z5]).set (n * 6) u0).set (n * 6 + 1) u1).set (n * 6 + 2) u2).set (n * 6 + 3) u3).set (n * 6 + 4) u4).set (n * 6 + 5) u5 = cs ++ [u0, u1, u2, u3, u4, u5] := by
  rw [← hl]
  simp
 rw [e] at h5
 exact h5
theorem own_cell {w : World} {B g n cap : Nat} {cs zs : List Value} (h : w.ownsRow B 41 6 (.slice (some ⟨g, 0, none⟩) (n + 1) cap) (n + 1) (cs ++ zs)) (hl : cs.length = n * 6) {i : Nat} {z : Value} (hz : zs[i]? = some z) (hi : i < 6) : w.cell? ⟨g, n * 6 + i, none⟩ = some z := by
 have := h.cellAt (n * 6 + i) (by omega)
 rw [this, List.getElem?_append_right (by omega), ← hz]
 congr 1
 omega
theorem own_frz {w : World} {B g n cap : Nat} {xs : List Value} (h : w.ownsRow B 41 6 (.slice (some ⟨g, 0, none⟩) n cap) n xs) (i : Nat) : w.frozen? ⟨g, i, none⟩ = false := by
 rcases h.2 with ⟨h0, _⟩ | ⟨g', cap', cur, he, hb, hg, _⟩
 · cases h0
 · injection he with he1 he2 he3
   injection he1 with he1
   injection he1 with he1
   subst he1
   exact zB hg i
theorem put6_far {w : World} {g b : Nat} {o0 o1 o2 o3 o4 o5 : Nat} {u0 u1 u2 u3 u4 u5 : Value} (hne : b ≠ g) : ((((((w.setCell ⟨g, o0, none⟩ u0).setCell ⟨g, o1, none⟩ u1).setCell ⟨g, o2, none⟩ u2).setCell ⟨g, o3, none⟩ u3).setCell ⟨g, o4, none⟩ u4).setCell ⟨g, o5, none⟩ u5).heap[b]? = w.heap[b]? := by
 rw [Below.heap_setCell _ _ _ _ hne, Below.heap_setCell _ _ _ _ hne, Below.heap_setCell _ _ _ _ hne, Below.heap_setCell _ _ _ _ hne, Below.heap_setCell _ _ _ _ hne, Below.heap_setCell _ _ _ _ hne]
set_option maxHeartbeats 1000000 in
theorem aft_mk {W w7 : World} {P n g cap : Nat} {vs : Value} {cs : List Value} {z0 z1 z2 z3 z4 z5 : Value} {o : Obj} (hown : W.ownsRow (P + 1) 41 6 vs n cs) (hP : P < W.heap.size) (hg : (W.alloc o).grownBy w7 vs.ownBlock)
    (hown7 : w7.ownsRow (P + 1) 41 6 (.slice (some ⟨g, 0, none⟩) (n + 1) cap) (n + 1) (cs ++ [z0, z1, z2, z3, z4, z5])) (hat : vs.ownBlock = some g ∨ g = W.heap.size + 1) (u0 u1 u2 u3 u4 u5 : Value) :
    Aft W (((((((w7.setCell ⟨g, n * 6, none⟩ u0).setCell ⟨g, n * 6 + 1, none⟩ u1).setCell ⟨g, n * 6 + 2, none⟩ u2).setCell ⟨g, n * 6 + 3, none⟩ u3).setCell ⟨g, n * 6 + 4, none⟩ u4).setCell ⟨g, n * 6 + 5, none⟩ u5).setCell ⟨P, 5, none⟩ (.slice (some ⟨g, 0, none⟩) (n + 1) cap)) P n vs cs [u0, u1, u2, u3, u4, u5] := by
 have h6 := own_put6 hown7 hown.1 u0 u1 u2 u3 u4 u5
 have hgP : P + 1 ≤ g := (hown7.lt g rfl).1
 have hvP : some P ≠ vs.ownBlock := fun e => by have := (hown.lt P e.symm).1; omega
 obtain ⟨X, hX⟩ : ∃ X, X = (((((w7.setCell ⟨g, n * 6, none⟩ u0).setCell ⟨g, n * 6 + 1, none⟩ u1).setCell ⟨g, n * 6 + 2, none⟩ u2).setCell ⟨g, n * 6 + 3, none⟩ u3).setCell ⟨g, n * 6 + 4, none⟩ u4).setCell ⟨g, n * 6 + 5, none⟩ u5 := ⟨_, rfl⟩
 have OX : Only g w7 X := by
  rw [hX]
  exact (((((Only.set_ g _ _ _).trans (Only.set_ g _ _ _)).trans (Only.set_ g _ _ _)).trans (Only.set_ g _ _ _)).trans (Only.set_ g _ _ _)).trans (Only.set_ g _ _ _)
 have hXb : ∀ b, b ≠ g → X.heap[b]? = w7.heap[b]? := fun b hb => by rw [hX]; exact put6_far hb
 have hXs : X.heap.size = w7.heap.size := by rw [hX]; simp only [setCell_heap_size]
 rw [← hX] at h6 ⊢
 clear hX hown7
 have hkp : (X.setCell ⟨P, 5, none⟩ (.slice (some ⟨g, 0, none⟩) (n + 1) cap)).ownsRow (P + 1) 41 6 (.slice (some ⟨g, 0, none⟩) (n + 1) cap) (n + 1) (cs ++ [u0, u1, u2, u3, u4, u5]) := h6.kept (row := some P) (Only.set_ P 5 _ _) (.inr (fun e => by have e2 : g = P := (by simpa [Value.ownBlock] using e); omega))
 have hs7 : W.heap.size + 1 ≤ w7.heap.size := by have := hg.size; simpa using this
 refine ⟨g, cap, hkp, fun a0 a1 a2 a3 a4 h => ?_, ?_, OX.os.trans hg.os, OX.tape.trans hg.tape, OX.output.trans hg.output, ?_, fun k hk hkP hkv => ?_⟩
 · have h7 : w7.heap[P]? = some (.cells #[a0, a1, a2, a3, a4, vs] 41 (0, 0)) := by rw [hg.block P (by simp; omega) hvP, Below.heap_alloc _ _ _ hP]; exact h
   have h8 := (hXb P (by omega)).trans h7
   simp [World.setCell, Array.getElem?_modify, h8]
 · rcases hat with h | h
   · exact .inl h
   · exact .inr (by omega)
 · rw [setCell_heap_size]
   omega
 · have hkg : k ≠ g := fun e => by
     rcases hat with h | h
     · exact hkv (by rw [h, e])
     · omega
   rw [Below.heap_setCell _ _ _ _ hkP, hXb k hkg, hg.block k (by simp; omega) hkv, Below.heap_alloc _ _ _ hk]
end Go.Proofs.YtaecndmncpfpfaaGreatDoor
namespace Go.Proofs.YtaecndmncpfpfaaGreatDoor
open Go.RowKit
theorem put6_only {w : World} {g : Nat} {o0 o1 o2 o3 o4 o5 : Nat} {u0 u1 u2 u3 u4 u5 : Value} : Only g w ((((((w.setCell ⟨g, o0, none⟩ u0).setCell ⟨g, o1, none⟩ u1).setCell ⟨g, o2, none⟩ u2).setCell ⟨g, o3, none⟩ u3).setCell ⟨g, o4, none⟩ u4).setCell ⟨g, o5, none⟩ u5) :=
 (((((Only.set_ g _ _ _).trans (Only.set_ g _ _ _)).trans (Only.set_ g _ _ _)).trans (Only.set_ g _ _ _)).trans (Only.set_ g _ _ _)).trans (Only.set_ g _ _ _)
theorem aft_mk2 {W w7 : World} {P n g cap : Nat} {vs : Value} {cs : List Value} {z0 z1 z2 z3 z4 z5 : Value} {o : Obj} (hown : W.ownsRow (P + 1) 41 6 vs n cs) (hP : P < W.heap.size) (hg : (W.alloc o).grownBy w7 vs.ownBlock)
    (hown7 : w7.ownsRow (P + 1) 41 6 (.slice (some ⟨g, 0, none⟩) (n + 1) cap) (n + 1) (cs ++ [z0, z1, z2, z3, z4, z5])) (hat : vs.ownBlock = some g ∨ g = W.heap.size + 1) (u0 u1 u2 u3 u4 u5 : Value) :
    Aft W (((((((w7.setCell ⟨P, 5, none⟩ (.slice (some ⟨g, 0, none⟩) (n + 1) cap)).setCell ⟨g, n * 6, none⟩ u0).setCell ⟨g, n * 6 + 1, none⟩ u1).setCell ⟨g, n * 6 + 2, none⟩ u2).setCell ⟨g, n * 6 + 3, none⟩ u3).setCell ⟨g, n * 6 + 4, none⟩ u4).setCell ⟨g, n * 6 + 5, none⟩ u5) P n vs cs [u0, u1, u2, u3, u4, u5] := by
 have hgP : P + 1 ≤ g := (hown7.lt g rfl).1
 have hvP : some P ≠ vs.ownBlock := fun e => by have := (hown.lt P e.symm).1; omega
 have hs7 : W.heap.size + 1 ≤ w7.heap.size := by have := hg.size; simpa using this
 have hkp : (w7.setCell ⟨P, 5, none⟩ (.slice (some ⟨g, 0, none⟩) (n + 1) cap)).ownsRow (P + 1) 41 6 (.slice (some ⟨g, 0, none⟩) (n + 1) cap) (n + 1) (cs ++ [z0, z1, z2, z3, z4, z5]) := hown7.kept (row := some P) (Only.set_ P 5 _ _) (.inr (fun e => by have e2 : g = P := (by simpa [Value.ownBlock] using e); omega))
 have h7 : ∀ a0 a1 a2 a3 a4, W.heap[P]? = some (.cells #[a0, a1, a2, a3, a4, vs] 41 (0, 0)) → (w7.setCell ⟨P, 5, none⟩ (.slice (some ⟨g, 0, none⟩) (n + 1) cap)).heap[P]? = some (.cells #[a0, a1, a2, a3, a4, .slice (some ⟨g, 0, none⟩) (n + 1) cap] 41 (0, 0)) := fun a0 a1 a2 a3 a4 h => by
  have h7 : w7.heap[P]? = some (.cells #[a0, a1, a2, a3, a4, vs] 41 (0, 0)) := by rw [hg.block P (by simp; omega) hvP, Below.heap_alloc _ _ _ hP]; exact h
  simp [World.setCell, Array.getElem?_modify, h7]
 have OP := Only.set_ P 5 w7 (.slice (some ⟨g, 0, none⟩) (n + 1) cap)
 have hPs : (w7.setCell ⟨P, 5, none⟩ (.slice (some ⟨g, 0, none⟩) (n + 1) cap)).heap.size = w7.heap.size := setCell_heap_size _ _ _
 generalize w7.setCell ⟨P, 5, none⟩ (.slice (some ⟨g, 0, none⟩) (n + 1) cap) = Y at *
 have h6 := own_put6 hkp hown.1 u0 u1 u2 u3 u4 u5
 have OX := put6_only (w := Y) (g := g) (o0 := n * 6) (o1 := n * 6 + 1) (o2 := n * 6 + 2) (o3 := n * 6 + 3) (o4 := n * 6 + 4) (o5 := n * 6 + 5) (u0 := u0) (u1 := u1) (u2 := u2) (u3 := u3) (u4 := u4) (u5 := u5)
 have hXb : ∀ b, b ≠ g → (((((((Y.setCell ⟨g, n * 6, none⟩ u0).setCell ⟨g, n * 6 + 1, none⟩ u1).setCell ⟨g, n * 6 + 2, none⟩ u2).setCell ⟨g, n * 6 + 3, none⟩ u3).setCell ⟨g, n * 6 + 4, none⟩ u4).setCell ⟨g, n * 6 + 5, none⟩ u5)).heap[b]? = Y.heap[b]? := fun b hb => put6_far hb
 generalize (((((Y.setCell ⟨g, n * 6, none⟩ u0).setCell ⟨g, n * 6 + 1, none⟩ u1).setCell ⟨g, n * 6 + 2, none⟩ u2).setCell ⟨g, n * 6 + 3, none⟩ u3).setCell ⟨g, n * 6 + 4, none⟩ u4).setCell ⟨g, n * 6 + 5, none⟩ u5 = X at *
 refine ⟨g, cap, h6, fun a0 a1 a2 a3 a4 h => (hXb P (by omega)).trans (h7 a0 a1 a2 a3 a4 h), ?_, OX.os.trans (OP.os.trans hg.os), OX.tape.trans (OP.tape.trans hg.tape), OX.output.trans (OP.output.trans hg.output), ?_, fun k hk hkP hkv => ?_⟩
 · rcases hat with h | h
   · exact .inl h
   · exact .inr (by omega)
 · have := OX.size
   omega
 · have hkg : k ≠ g := fun e => by
     rcases hat with h | h
     · exact hkv (by rw [h, e])
     · omega
   exact (hXb k hkg).trans ((OP.block k (by omega) (by simpa using hkP)).trans ((hg.block k (by simp; omega) hkv).trans (Below.heap_alloc _ _ _ hk)))
structure Kv (R P : Nat) (vs : Value) (w w' : World) : Prop where
 os : w'.os = w.os
 tape : w'.tape = w.tape
 output : w'.output = w.output
 size : w.heap.size ≤ w'.heap.size
 block : ∀ i, i < w.heap.size → i ≠ R → i ≠ P → some i ≠ vs.ownBlock → w'.heap[i]? = w.heap[i]?
def OwnTo (w : World) (vs vs' : Value) : Prop := vs'.ownBlock = vs.ownBlock ∨ ∀ g, vs'.ownBlock = some g → w.heap.size ≤ g
theorem Kv.of_only {R P : Nat} {vs : Value} {w w' : World} (h : Only R w w') : Kv R P vs w w' := ⟨h.os, h.tape, h.output, h.size, fun i hi hne _ _ => h.block i hi (by simpa using hne)⟩
theorem Kv.set_ {R P : Nat} {vs : Value} {w W : World} (h : Kv R P vs w W) (i : Nat) (u : Value) : Kv R P vs w (W.setCell ⟨P, i, none⟩ u) :=
 ⟨h.os, h.tape, h.output, by have := h.size; simpa [World.setCell] using this, fun j hj h1 h2 h3 => (Below.heap_setCell W _ u j h2).trans (h.block j hj h1 h2 h3)⟩
theorem Kv.trans {R P : Nat} {vs vs' : Value} {a b c : World} (h : Kv R P vs a b) (ht : OwnTo a vs vs') (k : Kv R P vs' b c) : Kv R P vs a c :=
 ⟨k.os.trans h.os, k.tape.trans h.tape, k.output.trans h.output, Nat.le_trans h.size k.size, fun i hi h1 h2 h3 => (k.block i (Nat.lt_of_lt_of_le hi h.size) h1 h2 (fun e => by
  rcases ht with ht | ht
  · exact h3 (e.trans ht)
  · have := ht i e.symm
    omega)).trans (h.block i hi h1 h2 h3)⟩
theorem OwnTo.trans {a b : World} {v1 v2 v3 : Value} (h : OwnTo a v1 v2) (hs : a.heap.size ≤ b.heap.size) (k : OwnTo b v2 v3) : OwnTo a v1 v3 := by
 rcases k with k | k
 · rcases h with h | h
   · exact .inl (k.trans h)
   · exact .inr fun g hg => h g (k.symm.trans hg)
 · exact .inr fun g hg => Nat.le_trans hs (k g hg)
theorem aft_kp {w W wx : World} {R P n m : Nat} {s : ByteArray} {vs : Value} {cs us : List Value} (hb : ∀ g, vs.ownBlock = some g → P + 1 ≤ g) (_hP : P < w.heap.size) (hRP : R < P) (hO : Only R w W) (hA : Aft W wx P n vs cs us) (hr : Rdr W R s m) : Kv R P vs w wx ∧ Rdr wx R s m := by
 obtain ⟨g, cap, _, _, _, h1, h2, h3, h4, h5⟩ := hA
 have hs := hO.size
 refine ⟨⟨h1.trans hO.os, h2.trans hO.tape, h3.trans hO.output, Nat.le_trans hs h4, fun i hi hne hnP hnv => (h5 i (by omega) hnP hnv).trans (hO.block i hi (by simpa using hne))⟩, ⟨(h5 R hr.lt (by omega) (fun e => by have := hb R e.symm; omega)).trans hr.box, hr.le, hr.len⟩⟩
theorem aft_pn {w W wx : World} {R P d c : Nat} {nd k : Nd} {A : Option Addr} {vs : Value} {cs : List Value} {u0 u1 u2 u3 u4 u5 : Value} (hN : PnI w P d nd A c vs cs) (hRP : R < P) (hO : Only R w W) (hA : Aft W wx P nd.kids.length vs cs [u0, u1, u2, u3, u4, u5])
    (hv : NdAt W (fun b => w.heap.size ≤ b) d (.agg #[u0, u1, u2, u3, u4, u5]) k) : ∃ vs' cs', PnI wx P d (.mk nd.op nd.int nd.text nd.ty (nd.kids ++ [k])) A c vs' cs' ∧ OwnTo w vs vs' := by
 obtain ⟨g, cap, hown, hbox, hat, _, _, _, hsz, hblk⟩ := hA
 have hPl := zC hN.box
 have hs := hO.size
 have hown0 := hN.own.lt
 have hl : cs.length = nd.kids.length * 6 := hN.own.1
 have hmv : ∀ b, (P < b ∧ some b ≠ vs.ownBlock) → b < w.heap.size → (P < b ∧ some b ≠ (Value.slice (some ⟨g, 0, none⟩) (nd.kids.length + 1) cap).ownBlock) ∧ ∀ o, wx.cell? ⟨b, o, none⟩ = w.cell? ⟨b, o, none⟩ := fun b hb hlt =>
  ⟨⟨hb.1, fun e => by
      have e2 : b = g := by simpa [Value.ownBlock] using e
      rcases hat with h | h
      · exact hb.2 (by rw [h, e2])
      · omega⟩,
   fun o => World.cell?_of_block ((hblk b (by omega) (by omega) hb.2).trans (hO.block b hlt (by simp; omega)))⟩
 have hmw : ∀ b, w.heap.size ≤ b → b < W.heap.size → (P < b ∧ some b ≠ (Value.slice (some ⟨g, 0, none⟩) (nd.kids.length + 1) cap).ownBlock) ∧ ∀ o, wx.cell? ⟨b, o, none⟩ = W.cell? ⟨b, o, none⟩ := fun b hb hlt => by
  have hne : some b ≠ vs.ownBlock := fun e => by have := (hown0 b e.symm).2; omega
  exact ⟨⟨by omega, fun e => by
      have e2 : b = g := by simpa [Value.ownBlock] using e
      rcases hat with h | h
      · exact hne (by rw [h, e2])
      · omega⟩,
   fun o => World.cell?_of_block (hblk b hlt (by omega) hne)⟩
 refine ⟨.slice (some ⟨g, 0, none⟩) (nd.kids.length + 1) cap, cs ++ [u0, u1, u2, u3, u4, u5], ⟨?_, ?_, ?_, fun i a ha => ?_⟩, hat.elim (fun h => .inl h.symm) (fun h => .inr fun g' hg' => by have e2 : g = g' := (by simpa [Value.ownBlock] using hg'); omega)⟩
 · simpa [Nd.kids] using hown
 · exact hbox _ _ _ _ _ ((hO.block P hPl (by simp; omega)).trans hN.box)
 · obtain ⟨dt, ht⟩ := hN.ty
   exact ⟨dt, TyAt.move hmv dt _ _ ht⟩
 · have ha' : (nd.kids ++ [k])[i]? = some a := ha
   rcases Nat.lt_or_ge i nd.kids.length with h | h
   · rw [List.getElem?_append_left h] at ha'
     obtain ⟨x0, x1, x2, x3, x4, x5, e0, e1, e2, e3, e4, e5, hx⟩ := hN.args i a ha'
     exact ⟨x0, x1, x2, x3, x4, x5, by rw [List.getElem?_append_left (by omega)]; exact e0, by rw [List.getElem?_append_left (by omega)]; exact e1, by rw [List.getElem?_append_left (by omega)]; exact e2, by rw [List.getElem?_append_left (by omega)]; exact e3, by rw [List.getElem?_append_left (by omega)]; exact e4, by rw [List.getElem?_append_left (by omega)]; exact e5, NdAt.move hmv d _ _ hx⟩
   · rw [List.getElem?_append_right h] at ha'
     have hi : i = nd.kids.length := by
      rcases Nat.lt_or_ge (i - nd.kids.length) 1 with h1 | h1
      · omega
      · rw [List.getElem?_eq_none (by simpa using h1)] at ha'; cases ha'
     subst hi
     rw [Nat.sub_self] at ha'
     have hka : k = a := by simpa using ha'
     subst hka
     have hz : ∀ (j : Nat) (u : Value), [u0, u1, u2, u3, u4, u5][j]? = some u → (cs ++ [u0, u1, u2, u3, u4, u5])[nd.kids.length * 6 + j]? = some u := fun j u hu => by
      rw [List.getElem?_append_right (by omega), ← hu]
      congr 1
      omega
     exact ⟨u0, u1, u2, u3, u4, u5, hz 0 u0 rfl, hz 1 u1 rfl, hz 2 u2 rfl, hz 3 u3 rfl, hz 4 u4 rfl, hz 5 u5 rfl, NdAt.move hmw d _ _ hv⟩
