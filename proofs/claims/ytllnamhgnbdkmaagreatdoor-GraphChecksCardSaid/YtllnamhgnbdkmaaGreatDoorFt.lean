/-
Arguments that are terms, and fit: whether they may be gone through.
-/
import Derived.Test.YtllnamhgnbdkmaaGreatDoorRc3
import Derived.Test.YtllnamhgnbdkmaaGreatDoorKa
import Derived.Test.YtllnamhgnbdkmaaGreatDoorRc7
import Derived.ProofKit
import Derived.DataReads
import Derived.Lib.Hide
import Derived.StillTailTactics
namespace Go.Proofs.YtllnamhgnbdkmaaGreatDoor
open Go.ChangeShapes Go.WideShapes Go.RowKit

theorem cellsK3 : Tryz.prog.cellsOf 3 = 1 := by kernel_rfl
theorem cellsK9 : Tryz.prog.cellsOf 9 = 1 := by kernel_rfl
theorem cellsK23 : Tryz.prog.cellsOf 62 = 1 := by kernel_rfl
theorem list_sixF {α : Type} {l : List α} (h : l.length = 6) : ∃ a b c d e f, l = [a, b, c, d, e, f] := by
  match l, h with
  | [a, b, c, d, e, f], _ => exact ⟨a, b, c, d, e, f, rfl⟩
theorem list_five {α : Type} {l : List α} (h : l.length = 5) : ∃ a b c d e, l = [a, b, c, d, e] := by
  match l, h with
  | [a, b, c, d, e], _ => exact ⟨a, b, c, d, e, rfl⟩
theorem add_six (b o k i : Nat) : ((⟨b, o, none⟩ : Addr).add k).add i = ⟨b, o + k + i, none⟩ := by
  simp only [Addr.add]
  by_cases hk : k = 0 <;> by_cases hi : i = 0 <;> simp [hk, hi]
theorem str_bl' (s : ByteArray) : (⟨(bl s).toArray⟩ : ByteArray) = s := by
  unfold bl; simp


set_option maxRecDepth 100000 in
theorem ty_open {H : Type} {enc : TypeId × Value → H} {w : World} {base : Nat} {sp : Nat → Bool} {held : Bool} : ∀ (fuel : Nat) (cs : List Value) (x : DataW H × List MemPlace), DataW.trod enc Tryz.prog w base sp held fuel 64 cs = some x →
    ∃ t, TyAt w (fun _ => True) fuel (.agg cs.toArray) t
  | 0, cs, x, h => by simp [DataW.trod] at h
  | fuel + 1, cs, x, h => by
    obtain ⟨xs, n, hn, hx, hl, hxl, hf⟩ := DataW.trod_struct Tryz.underlying64 h
    obtain rfl : n = fuel := by omega
    rw [Knd.cells24] at hl
    obtain ⟨c0, c1, rfl⟩ := list_two hl
    obtain ⟨x0, x1, rfl⟩ := list_two hxl
    have f0 : DataW.trod enc Tryz.prog w base sp held n 3 (([c0, c1].drop 0).take (Tryz.prog.cellsOf 3)) = some x0 := hf 0 _ rfl
    have f1 : DataW.trod enc Tryz.prog w base sp held n 62 (([c0, c1].drop 1).take (Tryz.prog.cellsOf 62)) = some x1 := hf 1 _ rfl
    rw [cellsK3] at f0
    rw [cellsK23] at f1
    obtain ⟨k, e0, _, _⟩ := DataW.trod_int Tryz.underlying3 (show DataW.trod enc Tryz.prog w base sp held n 3 [c0] = some x0 from f0)
    simp only [List.cons.injEq, and_true] at e0
    subst e0
    rcases DataW.trod_slice Tryz.underlying62 (show DataW.trod enc Tryz.prog w base sp held n 62 [c1] = some x1 from f1) with ⟨e1, _⟩ | ⟨a, len, cap, elems, rest, n', hn', e1, _, hb, hlc, _, hel, hcell, _⟩
    · simp only [List.cons.injEq, and_true] at e1
      subst e1
      exact ⟨.mk k [], none, 0, rfl, Nat.le_refl _, fun hl => absurd hl (by simp [Ty.args])⟩
    · simp only [List.cons.injEq, and_true] at e1
      subst e1
      rw [Knd.cells24] at hcell
      have key : ∀ i, i < len → ∃ t, ∃ u0 u1, w.cell? ((a.add (i * 2)).add 0) = some u0 ∧ w.cell? ((a.add (i * 2)).add 1) = some u1 ∧ TyAt w (fun _ => True) n' (.agg #[u0, u1]) t := fun i hi => by
        have h := hcell i hi
        rw [List.getElem?_eq_getElem (by omega)] at h
        obtain ⟨cs', hc, ht⟩ := Option.bind_eq_some_iff.1 h
        obtain ⟨_, hcl, hat⟩ := World.cells?_some hc
        obtain ⟨u0, u1, rfl⟩ := list_two hcl
        obtain ⟨t, hT⟩ := ty_open n' _ _ ht
        exact ⟨t, u0, u1, hat 0 (by omega), hat 1 (by omega), hT⟩
      obtain ⟨l, hll, hP⟩ := pick_list _ len key
      refine ⟨.mk k l, some a, cap, ?_, by show l.length ≤ cap; omega, fun hpos => ?_⟩
      · show Value.agg #[.int .i64 k, .slice (some a) len cap] = Value.agg #[.int .i64 k, .slice (some a) l.length cap]
        rw [hll]
      · have hp : 0 < len := by have : 0 < l.length := hpos; omega
        obtain ⟨_, u0, _, h0, _⟩ := key 0 hp
        have ha := spot_none h0
        have ha' : (a.add (0 * 2)).add 0 = a := by simp [Addr.add]
        rw [ha'] at ha
        refine ⟨a.block, a.off, by rw [← ha], trivial, fun j t hj => ?_⟩
        have hj' : l[j]? = some t := hj
        obtain ⟨u0, u1, h0, h1, hT⟩ := hP j t hj'
        rw [ha] at h0 h1
        refine ⟨u0, u1, ?_, ?_, TyAt.more n' n _ _ (by omega) hT⟩
        · rw [add_two0] at h0; exact h0
        · rw [add_two1] at h1; exact h1


/-- All ints of a term are ints. -/
def IntN : Nat → Nd → Prop
  | 0, _ => False
  | d + 1, n => -9223372036854775808 ≤ n.int ∧ n.int ≤ 9223372036854775807 ∧ ∀ k ∈ n.kids, IntN d k
theorem IntN.more : ∀ (d e : Nat) (n : Nd), d ≤ e → IntN d n → IntN e n
  | 0, _, _, _, h => h.elim
  | d + 1, e, n, hle, ⟨h0, h1, h2⟩ => by
    obtain ⟨e', rfl⟩ : ∃ e', e = e' + 1 := ⟨e - 1, by omega⟩
    exact ⟨h0, h1, fun k hk => IntN.more d e' k (by omega) (h2 k hk)⟩
theorem NdAt.more {w : World} {S : Nat → Prop} : ∀ (d e : Nat) (v : Value) (n : Nd), d ≤ e → NdAt w S d v n → NdAt w S e v n
  | 0, _, _, _, _, h => h.elim
  | d + 1, e, v, n, hle, ⟨A, c, K, k, hv, ht, hlk, h⟩ => by
    obtain ⟨e', rfl⟩ : ∃ e', e = e' + 1 := ⟨e - 1, by omega⟩
    refine ⟨A, c, K, k, hv, ht, hlk, fun hl => ?_⟩
    obtain ⟨b, o, hK, hS, hj⟩ := h hl
    refine ⟨b, o, hK, hS, fun j a ha => ?_⟩
    obtain ⟨u0, u1, u2, u3, u4, u5, h0, h1, h2, h3, h4, h5, h6⟩ := hj j a ha
    exact ⟨u0, u1, u2, u3, u4, u5, h0, h1, h2, h3, h4, h5, NdAt.more d e' _ _ (by omega) h6⟩
theorem wf_range {n : Int} (h : (Lit.int .i64 n).wf = true) : -9223372036854775808 ≤ n ∧ n ≤ 9223372036854775807 := by
  unfold Lit.wf at h
  rw [Bool.and_eq_true, decide_eq_true_eq, decide_eq_true_eq] at h
  exact h


/-- No node has more than 5000 Args; at most so deep. -/
def Nar : Nat → Ty → Prop
  | 0, _ => False
  | d + 1, t => t.args.length ≤ 5000 ∧ ∀ a ∈ t.args, Nar d a
/-- What flat answers with: the count goes down; where it says true, the type may be gone through. -/
def SmOut (dep : Nat) (t : Ty) (l : Int) (L : Nat) (e : Ending) (w' : World) : Prop :=
  ∃ (b : Bool) (l' : Int), e = .returned (.bool b) ∧ w'.heap[L]? = some (.cells #[.int .i64 l'] 3 (0, 0)) ∧ l' < l ∧ -1 ≤ l' ∧ (b = true → 0 ≤ l' ∧ Nar dep t)
/-- A term that may be gone through. -/
def FewN : Nat → Nd → Prop
  | 0, _ => False
  | d + 1, n => n.text.length ≤ 10000 ∧ n.op.length ≤ 100 ∧ Nar 30 n.ty ∧ n.kids.length ≤ 5000 ∧ ∀ k ∈ n.kids, FewN d k
def FwOut (dep : Nat) (n : Nd) (l : Int) (L : Nat) (e : Ending) (w' : World) : Prop :=
  ∃ (b : Bool) (l' : Int), e = .returned (.bool b) ∧ w'.heap[L]? = some (.cells #[.int .i64 l'] 3 (0, 0)) ∧ l' < l ∧ -1 ≤ l' ∧ (b = true → 0 ≤ l' ∧ FewN dep n)
theorem str_len (l : List UInt8) : (ByteArray.mk l.toArray).size = l.length := by simp [ByteArray.size]
end Go.Proofs.YtllnamhgnbdkmaaGreatDoor

namespace Go.Proofs.YtllnamhgnbdkmaaGreatDoor
open Go.ChangeShapes Go.WideShapes Go.RowKit

/-- The cells of a Kid. -/
theorem kid_cells6 {w : World} {S : Nat → Prop} {d b o j : Nat} {l : List Nd} (hc : ∀ (j : Nat) (a : Nd), l[j]? = some a → ∃ u0 u1 u2 u3 u4 u5, w.cell? ⟨b, o + j * 6, none⟩ = some u0 ∧ w.cell? ⟨b, o + j * 6 + 1, none⟩ = some u1 ∧ w.cell? ⟨b, o + j * 6 + 2, none⟩ = some u2 ∧ w.cell? ⟨b, o + j * 6 + 3, none⟩ = some u3 ∧ w.cell? ⟨b, o + j * 6 + 4, none⟩ = some u4 ∧ w.cell? ⟨b, o + j * 6 + 5, none⟩ = some u5 ∧ NdAt w S d (.agg #[u0, u1, u2, u3, u4, u5]) a) {a : Nd} (h : l[j]? = some a) :
    ∃ A c K k, w.cell? ⟨b, o + j * 6, none⟩ = some (.string ⟨a.op.toArray⟩) ∧ w.cell? ⟨b, o + j * 6 + 1, none⟩ = some (.int .i64 a.int) ∧ w.cell? ⟨b, o + j * 6 + 2, none⟩ = some (.string ⟨a.text.toArray⟩) ∧ w.cell? ⟨b, o + j * 6 + 3, none⟩ = some (.int .i64 a.ty.kind) ∧ w.cell? ⟨b, o + j * 6 + 4, none⟩ = some (.slice A a.ty.args.length c) ∧ w.cell? ⟨b, o + j * 6 + 5, none⟩ = some (.slice K a.kids.length k) ∧
      NdAt w S d (.agg #[.string ⟨a.op.toArray⟩, .int .i64 a.int, .string ⟨a.text.toArray⟩, .int .i64 a.ty.kind, .slice A a.ty.args.length c, .slice K a.kids.length k]) a ∧ b < w.heap.size := by
  obtain ⟨u0, u1, u2, u3, u4, u5, h0, h1, h2, h3, h4, h5, h6⟩ := hc j a h
  have hbl := World.block_lt_of_cell? w _ h0
  obtain ⟨A, c, K, k, he⟩ := h6.form
  injection he with he
  have he' := congrArg Array.toList he
  simp only [List.cons.injEq, and_true] at he'
  obtain ⟨rfl, rfl, rfl, rfl, rfl, rfl⟩ := he'
  exact ⟨A, c, K, k, h0, h1, h2, h3, h4, h5, h6, hbl⟩

end Go.Proofs.YtllnamhgnbdkmaaGreatDoor
