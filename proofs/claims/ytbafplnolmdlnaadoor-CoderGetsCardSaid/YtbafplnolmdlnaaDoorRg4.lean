/-
The document's answer: what holds in the loops of Get.
-/
import Derived.Test.YtbafplnolmdlnaaDoorBnd
import Derived.StillTailTactics
namespace Go.Proofs.YtbafplnolmdlnaaDoor
open Go.RowKit

/-- What holds ahead of each value of a pair, a list or an option. -/
structure GlI (w : World) (Q sz : Nat) (k : Int) (A0 : Option Addr) (n0 c0 r : Nat) (acc : List Val) (vs : Value) (cs : List Value) (wr : World) : Prop where
  own : wr.ownsRow (w.heap.size + 3) 32 5 vs acc.length cs
  only : Only Q w wr
  cnt : wr.heap[Q]? = some (.cells #[.int .i64 (sz : Int)] 3 (0, 0))
  tbox : wr.heap[w.heap.size]? = some (.cells #[.int .i64 k, .slice A0 n0 c0] 24 (0, 0))
  rbox : wr.heap[w.heap.size + 1]? = some (.cells #[.int .i64 0, .int .i64 0, .string ⟨#[]⟩, .complex .f64 0 0, .slice none 0 0] 32 (0, 0))
  vbox : wr.heap[w.heap.size + 2]? = some (.cells #[.int .i64 k, .int .i64 0, .string ⟨#[]⟩, .complex .f64 0 0, vs] 32 (0, 0))
  args : ∀ (i : Nat) (a : Val), acc[i]? = some a → ∃ u0 u1 u2 u3 u4, cs[i * 5]? = some u0 ∧ cs[i * 5 + 1]? = some u1 ∧ cs[i * 5 + 2]? = some u2 ∧ cs[i * 5 + 3]? = some u3 ∧ cs[i * 5 + 4]? = some u4 ∧ VAt wr (fun b => w.heap.size + 3 ≤ b ∧ some b ≠ vs.ownBlock) r (.agg #[u0, u1, u2, u3, u4]) a

theorem set4_heap {w : World} {g : Nat} {a0 a1 a2 a3 a4 b4 : Value} {t : TypeId} (h : w.heap[g]? = some (.cells #[a0, a1, a2, a3, a4] t (0, 0))) : (w.setCell ⟨g, 4, none⟩ b4).heap[g]? = some (.cells #[a0, a1, a2, a3, b4] t (0, 0)) := by
  simp [World.setCell, Array.getElem?_modify, h]

theorem GlI.next {w wr w3 w7 : World} {Q sz sz' : Nat} {k : Int} {A0 : Option Addr} {n0 c0 r : Nat} {acc : List Val} {vs v' : Value} {cs : List Value} {o1 o2 : Obj} {u0 u1 u2 u3 u4 : Value} {V : Val}
    (h : GlI w Q sz k A0 n0 c0 r acc vs cs wr) (hQ : Q < w.heap.size) (ho : Only Q wr w3) (hc : w3.heap[Q]? = some (.cells #[.int .i64 (sz' : Int)] 3 (0, 0))) (hV : VAt w3 (fun b => wr.heap.size ≤ b) r (.agg #[u0, u1, u2, u3, u4]) V)
    (hg : ((w3.alloc o1).alloc o2).grownBy w7 vs.ownBlock) (hown7 : w7.ownsRow (w.heap.size + 3) 32 5 v' (acc.length + 1) (cs ++ [u0, u1, u2, u3, u4])) (hat : v'.ownBlock = vs.ownBlock ∨ v'.ownBlock = some ((w3.alloc o1).alloc o2).heap.size) :
    GlI w Q sz' k A0 n0 c0 r (acc ++ [V]) v' (cs ++ [u0, u1, u2, u3, u4]) (w7.setCell ⟨w.heap.size + 2, 4, none⟩ v') := by
  have hsr : w.heap.size + 2 < wr.heap.size := cell_lt h.vbox
  have hs3 := ho.size
  have hs7 := hg.size
  have e3 : ((w3.alloc o1).alloc o2).heap.size = w3.heap.size + 2 := by simp
  have hvs : ∀ b, vs.ownBlock = some b → w.heap.size + 3 ≤ b ∧ b < wr.heap.size := h.own.lt
  have step3 : ∀ b, b < w3.heap.size → some b ≠ vs.ownBlock → w7.heap[b]? = w3.heap[b]? := fun b hl hne => by
    rw [hg.block b (by omega) hne, Below.heap_alloc _ _ _ (by simp; omega), Below.heap_alloc _ _ _ hl]
  have stepF : ∀ b, b < w3.heap.size → some b ≠ vs.ownBlock → b ≠ w.heap.size + 2 → (w7.setCell ⟨w.heap.size + 2, 4, none⟩ v').heap[b]? = w3.heap[b]? := fun b hl hne hb => by
    rw [Below.heap_setCell _ _ _ _ hb, step3 b hl hne]
  have hO7 : Only Q w w7 := Only.grown (only_alloc' (only_alloc' (h.only.trans ho) o1) o2) hg fun k hk => by have := (hvs k hk).1; omega
  have hO : Only Q w (w7.setCell ⟨w.heap.size + 2, 4, none⟩ v') := Only.far (by show w.heap.size ≤ w.heap.size + 2; omega) hO7
  have hcl : cs.length = acc.length * 5 := h.own.1
  have hnv : ∀ k, k < w3.heap.size → some k ≠ vs.ownBlock → some k ≠ v'.ownBlock := fun k hk hne e => by
    rcases hat with hh | hh
    · exact hne (e.trans hh)
    · rw [hh, e3] at e; injection e; omega
  have nlow : ∀ b, b < w.heap.size + 3 → some b ≠ vs.ownBlock := fun b hb e => by have := (hvs b e.symm).1; omega
  refine ⟨?_, hO, ?_, ?_, ?_, ?_, fun i a hi => ?_⟩
  · rw [List.length_append]
    exact hown7.kept (row := some (w.heap.size + 2)) (Only.set_ (w.heap.size + 2) 4 w7 v') (.inr (fun e => by have := (hown7.lt _ e).1; omega))
  · rw [stepF Q (by omega) (nlow _ (by omega)) (by omega)]; exact hc
  · rw [stepF _ (by omega) (nlow _ (by omega)) (by omega), ho.block _ (by omega) (by simp; omega)]; exact h.tbox
  · rw [stepF _ (by omega) (nlow _ (by omega)) (by omega), ho.block _ (by omega) (by simp; omega)]; exact h.rbox
  · refine set4_heap (a4 := vs) ?_
    exact ((step3 _ (by omega) (nlow _ (by omega))).trans (ho.block _ (by omega) (by simp; omega))).trans h.vbox
  · rcases Nat.lt_or_ge i acc.length with hlt | hge
    · rw [List.getElem?_append_left hlt] at hi
      obtain ⟨x0, x1, x2, x3, x4, h0, h1, h2, h3, h4, h5⟩ := h.args i a hi
      refine ⟨x0, x1, x2, x3, x4, by rw [List.getElem?_append_left (by omega)]; exact h0, by rw [List.getElem?_append_left (by omega)]; exact h1, by rw [List.getElem?_append_left (by omega)]; exact h2, by rw [List.getElem?_append_left (by omega)]; exact h3, by rw [List.getElem?_append_left (by omega)]; exact h4, h5.move fun k hk hl => ⟨⟨hk.1, hnv k (by omega) hk.2⟩, fun _ => World.cell?_of_block ?_⟩⟩
      have hk1 := hk.1
      rw [stepF k (by omega) hk.2 (by omega)]
      exact ho.block k hl (by simp; omega)
    · have hi2 : i = acc.length := by
        have := (List.getElem?_eq_some_iff.1 hi).1
        simp at this; omega
      subst hi2
      rw [List.getElem?_append_right (by omega)] at hi
      simp at hi
      subst hi
      have nev : ∀ k, wr.heap.size ≤ k → some k ≠ vs.ownBlock := fun k hk e => by have := (hvs k e.symm).2; omega
      refine ⟨u0, u1, u2, u3, u4, ?_, ?_, ?_, ?_, ?_, hV.move fun k hk hl => ⟨⟨by have hk' : wr.heap.size ≤ k := hk; omega, hnv k hl (nev k hk)⟩, fun _ => World.cell?_of_block (stepF k hl (nev k hk) (by have hk' : wr.heap.size ≤ k := hk; omega))⟩⟩ <;>
      (rw [List.getElem?_append_right (by omega)]; simp [hcl])

theorem GlI.lat {w wr : World} {Q sz : Nat} {k : Int} {A0 : Option Addr} {n0 c0 r : Nat} {acc : List Val} {vs : Value} {cs : List Value} (h : GlI w Q sz k A0 n0 c0 r acc vs cs wr) : LAt wr (fun b => w.heap.size + 3 ≤ b) r vs acc := by
  rcases h.own.2 with ⟨rfl, h0⟩ | ⟨g, cap, cur, rfl, hbg, hg, hnc, _⟩
  · refine ⟨none, 0, by rw [h0], by omega, fun hl => by omega⟩
  · have hgl := cell_lt hg
    refine ⟨some ⟨g, 0, none⟩, cap, rfl, hnc, fun hl => ⟨g, 0, rfl, hbg, fun j a ha => ?_⟩⟩
    obtain ⟨u0, u1, u2, u3, u4, h0, h1, h2, h3, h4, h5⟩ := h.args j a ha
    have hjl := (List.getElem?_eq_some_iff.1 ha).1
    refine ⟨u0, u1, u2, u3, u4, ?_, ?_, ?_, ?_, ?_, h5.wider fun b hb => hb.1⟩
    · rw [Nat.zero_add, h.own.cellAt _ (by omega)]; exact h0
    · rw [Nat.zero_add, h.own.cellAt _ (by omega)]; exact h1
    · rw [Nat.zero_add, h.own.cellAt _ (by omega)]; exact h2
    · rw [Nat.zero_add, h.own.cellAt _ (by omega)]; exact h3
    · rw [Nat.zero_add, h.own.cellAt _ (by omega)]; exact h4

/-- Get, of types that are at most r deep. -/
def GOk (r : Nat) : Prop := ∀ (d : Nat) (S SB : Nat → Prop) (q Q : Nat) (A : Option Addr) (c : Nat) (l : List UInt8) (m sz : Nat) (v : Value) (t : Ty) (w : World), r ≤ 6 → measureT r t = some q → TyAt w S d v t → (∀ b, S b → b ≠ Q) → BAt w SB A l → (∀ b, SB b → b ≠ Q) → l.length ≤ 1000000 → m ≤ l.length → sz ≤ 2000 → w.heap[Q]? = some (.cells #[.int .i64 (sz : Int)] 3 (0, 0)) →
    Calls Tryd.prog 24 #[v, .slice A l.length c, .int .i64 (m : Int), .pointer (some ⟨Q, 0, none⟩)] w fun e w' => GgOut Q l r w e w' (getV r t l m sz)
end Go.Proofs.YtbafplnolmdlnaaDoor
