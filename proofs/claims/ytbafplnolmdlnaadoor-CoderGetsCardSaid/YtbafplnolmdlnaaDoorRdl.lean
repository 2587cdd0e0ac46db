/-
The reader of package coder: readList.
-/
import Derived.Test.YtbafplnolmdlnaaDoorRdo
namespace Go.Proofs.YtbafplnolmdlnaaDoor
open Go.RowKit

theorem info32 : (Tryd.prog.info? 32).map (fun i => (i.zero, i.size, i.bytes)) = some (some (.agg #[.int .i64 0, .int .i64 0, .string ⟨#[]⟩, .complex .f64 0 0, .slice none 0 0]), 5, 72) := by kernel_rfl

theorem cell_five_new (w : World) (a b c d e : Value) (t : TypeId) (B : Nat) (hB : B = w.heap.size) : ∀ j u, [a, b, c, d, e][j]? = some u → (w.alloc (.cells #[a, b, c, d, e] t)).cell? ((⟨B, 0, none⟩ : Addr).add j) = some u := by
  subst hB
  intro j u hj
  match j, hj with
  | 0, hj => simp at hj; subst hj; simp [Addr.add]
  | 1, hj => simp at hj; subst hj; simp [Addr.add]
  | 2, hj => simp at hj; subst hj; simp [Addr.add]
  | 3, hj => simp at hj; subst hj; simp [Addr.add]
  | 4, hj => simp at hj; subst hj; simp [Addr.add]
  | j + 5, hj => simp at hj
theorem five_one (k i : Int) (s : ByteArray) (x y : Nat) (A : Option Addr) (n c : Nat) : ∀ u ∈ [Value.int .i64 k, .int .i64 i, .string s, .complex .f64 x y, .slice A n c], u.oneCell' = true := by
  intro u hu
  simp at hu
  rcases hu with rfl | rfl | rfl | rfl | rfl <;> rfl

/-- What holds ahead of each value of readList. -/
structure LsI (w : World) (R : Nat) (A : Option Addr) (c : Nat) (l : List UInt8) (r : Nat) (t : Ty) (A0 : Option Addr) (c0 : Nat) (acc : List Val) (m sz : Nat) (vs : Value) (cs : List Value) (wr : World) : Prop where
  own : wr.ownsRow (w.heap.size + 1) 32 5 vs acc.length cs
  only : Only R w wr
  rdr : Rdr wr R A c l m sz
  box : wr.heap[w.heap.size]? = some (.cells #[.int .i64 t.kind, .slice A0 t.args.length c0] 38 (0, 0))
  args : ∀ (i : Nat) (a : Val), acc[i]? = some a → ∃ u0 u1 u2 u3 u4, cs[i * 5]? = some u0 ∧ cs[i * 5 + 1]? = some u1 ∧ cs[i * 5 + 2]? = some u2 ∧ cs[i * 5 + 3]? = some u3 ∧ cs[i * 5 + 4]? = some u4 ∧ VAt wr (fun b => w.heap.size ≤ b ∧ some b ≠ vs.ownBlock) r (.agg #[u0, u1, u2, u3, u4]) a

theorem LsI.next {w wr w3 w7 : World} {R : Nat} {A : Option Addr} {c : Nat} {l : List UInt8} {r : Nat} {t : Ty} {A0 : Option Addr} {c0 : Nat} {acc : List Val} {m sz m' sz' : Nat} {vs v' : Value} {cs : List Value} {o1 o2 : Obj} {u0 u1 u2 u3 u4 : Value} {V : Val}
    (h : LsI w R A c l r t A0 c0 acc m sz vs cs wr) {m0 sz0 : Nat} (hRw : Rdr w R A c l m0 sz0) (hR : R < w.heap.size) (ho : Only R wr w3) (hr : Rdr w3 R A c l m' sz') (hV : VAt w3 (fun b => wr.heap.size ≤ b) r (.agg #[u0, u1, u2, u3, u4]) V)
    (hg : ((w3.alloc o1).alloc o2).grownBy w7 vs.ownBlock) (hown7 : w7.ownsRow (w.heap.size + 1) 32 5 v' (acc.length + 1) (cs ++ [u0, u1, u2, u3, u4])) (hat : v'.ownBlock = vs.ownBlock ∨ v'.ownBlock = some ((w3.alloc o1).alloc o2).heap.size) :
    LsI w R A c l r t A0 c0 (acc ++ [V]) m' sz' v' (cs ++ [u0, u1, u2, u3, u4]) w7 := by
  have hsr : w.heap.size < wr.heap.size := cell_lt h.box
  have hs3 := ho.size
  have e3 : ((w3.alloc o1).alloc o2).heap.size = w3.heap.size + 2 := by simp
  have hvs : ∀ b, vs.ownBlock = some b → w.heap.size + 1 ≤ b ∧ b < wr.heap.size := h.own.lt
  have step3 : ∀ b, b < w3.heap.size → some b ≠ vs.ownBlock → w7.heap[b]? = w3.heap[b]? := fun b hl hne => by
    rw [hg.block b (by omega) hne, Below.heap_alloc _ _ _ (by simp; omega), Below.heap_alloc _ _ _ hl]
  have hO : Only R w w7 := Only.grown (only_alloc' (only_alloc' (h.only.trans ho) o1) o2) hg fun k hk => by have := (hvs k hk).1; omega
  have hcl : cs.length = acc.length * 5 := h.own.1
  have hnv : ∀ k, k < w3.heap.size → some k ≠ vs.ownBlock → some k ≠ v'.ownBlock := fun k hk hne e => by
    rcases hat with hh | hh
    · exact hne (e.trans hh)
    · rw [hh, e3] at e; injection e; omega
  refine ⟨by rw [List.length_append]; exact hown7, hO, ?_, ?_, fun i a hi => ?_⟩
  · refine hRw.moved hO ?_ hr.le
    rw [step3 R (by omega) (fun e => by have := (hvs R e.symm).1; omega)]; exact hr.box
  · rw [step3 _ (by omega) (fun e => by have := (hvs _ e.symm).1; omega), ho.block _ hsr (by simp; omega)]; exact h.box
  · rcases Nat.lt_or_ge i acc.length with hlt | hge
    · rw [List.getElem?_append_left hlt] at hi
      obtain ⟨x0, x1, x2, x3, x4, h0, h1, h2, h3, h4, h5⟩ := h.args i a hi
      refine ⟨x0, x1, x2, x3, x4, by rw [List.getElem?_append_left (by omega)]; exact h0, by rw [List.getElem?_append_left (by omega)]; exact h1, by rw [List.getElem?_append_left (by omega)]; exact h2, by rw [List.getElem?_append_left (by omega)]; exact h3, by rw [List.getElem?_append_left (by omega)]; exact h4, h5.move fun k hk hl => ⟨⟨hk.1, hnv k (by omega) hk.2⟩, fun _ => World.cell?_of_block (show w7.heap[k]? = wr.heap[k]? by rw [step3 k (by omega) hk.2]; exact ho.block k hl (by simp; have := hk.1; omega))⟩⟩
    · have hi2 : i = acc.length := by
        have := (List.getElem?_eq_some_iff.1 hi).1
        simp at this; omega
      subst hi2
      rw [List.getElem?_append_right (by omega)] at hi
      simp at hi
      subst hi
      have nev : ∀ k, wr.heap.size ≤ k → some k ≠ vs.ownBlock := fun k hk e => by have := (hvs k e.symm).2; omega
      refine ⟨u0, u1, u2, u3, u4, ?_, ?_, ?_, ?_, ?_, hV.move fun k hk hl => ⟨⟨by have hk' : wr.heap.size ≤ k := hk; omega, hnv k hl (nev k hk)⟩, fun _ => World.cell?_of_block (step3 k hl (nev k hk))⟩⟩ <;>
      (rw [List.getElem?_append_right (by omega)]; simp [hcl])
end Go.Proofs.YtbafplnolmdlnaaDoor
