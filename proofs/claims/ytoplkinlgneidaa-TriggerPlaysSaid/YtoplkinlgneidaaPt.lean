/-
The walk of PaneRight.
-/
import Derived.Test.YtoplkinlgneidaaPc
set_option linter.unusedVariables false
namespace Go.Proofs.Ytoplkinlgneidaa
open Go.RowKit

theorem step_append_any {P : Program} {w : World} {ops : Array Oper} {o : Oper} {a : Act} {K : Act → World → Prop} {Q : Exit → Act → World → Prop} {E : Prop} (hgd : o.guard = none) (s x : Operand) (t : TypeId)
    (ho : o.op = .call { callee := .builtin .append, args := #[s, x], argTypes := #[t, t] })
    (base : Nat) (e : TypeId) (i : TypeInfo) (z : Value) (size bytes : Nat) (ht : P.underlying t = some (.slice e)) (hi : P.info? e = some i) (hz : i.zero = some z)
    (hsize : i.size = size) (hby : i.bytes = bytes) (hzs : z.cells.size = size) (hsz : 0 < size)
    (v : Value) (n : Nat) (xs : List Value) (hs : a.eval s = v) (hown : w.ownsRow base e size v n xs)
    (ad : Addr) (m c : Nat) (news : List Value) (hx : a.eval x = .slice (some ad) m c) (hl : news.length = m * size) (hnews : ∀ j u, news[j]? = some u → w.cell? (ad.add j) = some u) (h1 : ∀ u ∈ news, u.oneCell' = true)
    (h63 : n + m ≤ maxLen) (hbytes : (n + m) * bytes ≤ 140737488355328) (hbase : base ≤ w.heap.size)
    (h : ∀ v' w', w'.ownsRow base e size v' (n + m) (xs ++ news) → w.grownBy w' v.ownBlock → (v' = .slice none 0 0 ↔ v = .slice none 0 0 ∧ m = 0) → K (a.put o.dst v') w') :
    if Region.wanted o (yielded ops a.tmps) = true then Oper.wp P o a w K Q else E := by
  have hw : Region.wanted o (yielded ops a.tmps) = true := by simp [Region.wanted, hgd]
  rw [if_pos hw]
  exact wp_append_own w s x t ho base e i z size bytes ht hi hz hsize hby hzs hsz v n xs hs hown ad m c news hx hl hnews h1 h63 hbytes hbase h

theorem flat_append (a b : List Inf) : flat (a ++ b) = flat a ++ flat b := by simp [flat]

theorem flat_take (d : List Inf) (k j : Nat) (u : Value) (h : (flat (d.take k))[j]? = some u) : (flat d)[j]? = some u := by
  have e : flat d = flat (d.take k) ++ flat (d.drop k) := by rw [← flat_append, List.take_append_drop]
  rw [e, List.getElem?_append_left (List.getElem?_eq_some_iff.1 h).1]
  exact h

theorem flat_drop (d : List Inf) (k j : Nat) (u : Value) (hk : k ≤ d.length) (h : (flat (d.drop k))[j]? = some u) : (flat d)[k * 3 + j]? = some u := by
  have e : flat d = flat (d.take k) ++ flat (d.drop k) := by rw [← flat_append, List.take_append_drop]
  have hl : (flat (d.take k)).length = k * 3 := by rw [flat_length, List.length_take, Nat.min_eq_left hk]
  rw [e, List.getElem?_append_right (by omega), hl, Nat.add_sub_cancel_left]
  exact h

theorem drop_cells {w : World} {B e gd cv k : Nat} {d : List Inf} (h : w.ownsRow B e 3 (.slice (some ⟨gd, 0, none⟩) d.length cv) d.length (flat d)) (hk : k ≤ d.length) : ∀ j u, (flat (d.drop k))[j]? = some u → w.cell? ((⟨gd, k * 3, none⟩ : Addr).add j) = some u := fun j u hj => by
  have := h.cells (g := gd) rfl _ u (flat_drop d k j u hk hj)
  rw [addr_add] at this ⊢
  rwa [Nat.zero_add] at this

/-- What is all right, is found so. -/
theorem chk_right {d : List Inf} (h : GdL d) {e : Ending} (he : ChkOut d e) : e = .returned (.tuple #[.int .i64 d.length, .int .i64 0]) := by
  rcases he with ⟨he, _⟩ | ⟨k, x, hx, _, hn, _⟩
  · exact he
  · exact absurd (gd_at h k x hx).2 hn

/-- With one left out in the middle it is found there. -/
theorem chk_less {d : List Inf} (h : GdL d) {k : Nat} (hk : k + 1 < d.length) {e : Ending} (he : ChkOut (d.take k ++ d.drop (k + 1)) e) : e = .returned (.tuple #[.int .i64 (k : Int), .int .i64 90]) := by
  have hlt : (d.take k).length = k := by rw [List.length_take, Nat.min_eq_left (by omega)]
  have hat : (d.take k ++ d.drop (k + 1))[k]? = some d[k + 1] := by
    rw [List.getElem?_append_right (by omega), hlt, Nat.sub_self, List.getElem?_drop]
    exact List.getElem?_eq_getElem hk
  have hix : (d[k + 1]).1 = ((k + 1 : Nat) : Int) := by
    have := (gd_at h (k + 1) _ (List.getElem?_eq_getElem hk)).2.1
    rw [List.length_take, Nat.min_eq_left (by omega)] at this
    exact this
  have hno : ∀ l : List Inf, l.take k ++ [] = l.take k := fun l => List.append_nil _
  have htk : (d.take k ++ d.drop (k + 1)).take k = d.take k := by rw [List.take_append_of_le_length (by omega), List.take_of_length_le (by omega)]
  have hbad : ¬ Fol ((d.take k ++ d.drop (k + 1)).take k) d[k + 1] := fun hf => by
    have := hf.1
    rw [htk, hlt, hix] at this
    omega
  rcases he with ⟨_, hg⟩ | ⟨i, x, hx, hg, hn, he⟩
  · exact absurd (gd_at hg k _ hat).2 hbad
  · rcases Nat.lt_trichotomy i k with hi | hi | hi
    · exfalso
      apply hn
      have hx' : d[i]? = some x := by
        rw [List.getElem?_append_left (by omega), List.getElem?_take_of_lt hi] at hx
        exact hx
      have := (gd_at h i x hx').2
      rw [List.take_append_of_le_length (by omega), List.take_take, Nat.min_eq_left (by omega)]
      exact this
    · subst hi; exact he
    · exfalso
      have hat' : ((d.take k ++ d.drop (k + 1)).take i)[k]? = some d[k + 1] := by rw [List.getElem?_take_of_lt hi]; exact hat
      have := (gd_at hg k _ hat').2
      rw [List.take_take, Nat.min_eq_left (by omega)] at this
      exact hbad this

end Go.Proofs.Ytoplkinlgneidaa
