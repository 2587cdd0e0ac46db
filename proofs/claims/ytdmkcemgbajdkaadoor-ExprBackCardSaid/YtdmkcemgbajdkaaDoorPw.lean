/-
Package expr: what stands behind a word: the pure part, and the finished node.
-/
import Derived.Test.YtdmkcemgbajdkaaDoorPr
namespace Go.Proofs.YtdmkcemgbajdkaaDoor
open Go.RowKit

theorem PnI.nd {w : World} {P d c : Nat} {nd : Nd} {A : Option Addr} {vs : Value} {cs : List Value} (h : PnI w P d nd A c vs cs) :
    NdAt w (fun b => P < b) (d + 1) (.agg #[.string ⟨nd.op.toArray⟩, .int .i64 nd.int, .string ⟨nd.text.toArray⟩, .int .i64 nd.ty.kind, .slice A nd.ty.args.length c, vs]) nd := by
  have hcs : cs.length = nd.kids.length * 6 := h.own.1
  obtain ⟨dt, ht⟩ := h.ty
  have hty : ∃ dt, TyAt w (fun b => P < b) dt (.agg #[.int .i64 nd.ty.kind, .slice A nd.ty.args.length c]) nd.ty := ⟨dt, TyAt.move (fun b hb _ => ⟨hb.1, fun _ => rfl⟩) dt _ _ ht⟩
  rcases h.own.2 with ⟨hv, hn⟩ | ⟨g, cap, cur, hv, hb, hg, hn, hm, hsz, htk⟩
  · subst hv
    refine ⟨A, c, none, 0, ?_, hty, by omega, fun hl => absurd hl (by omega)⟩
    rw [hn]
  · subst hv
    refine ⟨A, c, some ⟨g, 0, none⟩, cap, rfl, hty, by omega, fun hl => ⟨g, 0, rfl, by omega, fun j a ha => ?_⟩⟩
    obtain ⟨u0, u1, u2, u3, u4, u5, e0, e1, e2, e3, e4, e5, hx⟩ := h.args j a ha
    have hc : ∀ k u, cs[k]? = some u → w.cell? ⟨g, k, none⟩ = some u := fun k u hu => by
      have hk : k < cs.length := by
        rcases Nat.lt_or_ge k cs.length with h1 | h1
        · exact h1
        · rw [List.getElem?_eq_none h1] at hu; cases hu
      rw [h.own.cellAt k (by omega), hu]
    simp only [Nat.zero_add]
    exact ⟨u0, u1, u2, u3, u4, u5, hc _ _ e0, hc _ _ e1, hc _ _ e2, hc _ _ e3, hc _ _ e4, hc _ _ e5, NdAt.move (fun b hb _ => ⟨hb.1, fun _ => rfl⟩) d _ _ hx⟩

/-- A name or a word, and what stands behind it. -/
def wordR (kp : List UInt8 → Nat × Option Ty) (l : List UInt8) (r m : Nat) : Nat × Option Nd := match wdP (spel l m) with
  | none => (m + (spel l m).length, some (nameN (spel l m)))
  | some (p, least) => if hasB p 101 && decide (r = 0) then (m + (spel l m).length, none)
    else if p = [] then (m + (spel l m).length, some (.mk (spel l m) 0 [] ty0 []))
    else partsR kp (exprR kp l r) l least p 0 40 (m + (spel l m).length) (.mk (spel l m) 0 [] ty0 [])

theorem wd_ok : (wdL.all fun x => x.2.all (fun b => decide (b = 100) || decide (b = 101) || decide (b = 110) || decide (b = 116)) && decide (x.2.length ≤ 64)) = true := by decide +kernel
theorem wdP_ok {t p : List UInt8} {least : Nat} (h : wdP t = some (p, least)) : p.length ≤ 64 ∧ least ≤ 64 ∧ ∀ b ∈ p, b = 100 ∨ b = 101 ∨ b = 110 ∨ b = 116 := by
  unfold wdP at h
  by_cases hl : t = listW
  · rw [if_pos hl] at h
    injection h with h
    injection h with h1 h2
    subst h1
    subst h2
    exact ⟨by simp, by omega, fun b hb => .inr (.inl (List.eq_of_mem_replicate hb))⟩
  · rw [if_neg hl] at h
    cases hf : wdL.find? (fun x => decide (x.1 = t)) with
    | none => rw [hf] at h; cases h
    | some x =>
      rw [hf] at h
      injection h with h
      injection h with h1 h2
      have hx := List.all_eq_true.1 wd_ok x (List.mem_of_find?_eq_some hf)
      simp only [Bool.and_eq_true, decide_eq_true_eq] at hx
      subst h1
      subst h2
      refine ⟨hx.2, hx.2, fun b hb => ?_⟩
      have := List.all_eq_true.1 hx.1 b hb
      simp only [Bool.or_eq_true, decide_eq_true_eq] at this
      rcases this with ((h | h) | h) | h
      · exact .inl h
      · exact .inr (.inl h)
      · exact .inr (.inr (.inl h))
      · exact .inr (.inr (.inr h))

theorem kids_one (kp : List UInt8 → Nat × Option Ty) (f : Nat → Nat × Option Nd) (l : List UInt8) (p : UInt8) (m : Nat) (nd : Nd) (m' : Nat) (nd' : Nd) (h : partR kp f l p m nd = (m', some nd')) : nd'.kids.length ≤ nd.kids.length + 1 := by
  unfold partR at h
  have key : ∀ {α : Type} (q : Nat × Option α) (g : α → Nd) , (bindP q fun m' x => (m', some (g x))) = (m', some nd') → ∃ x, nd' = g x := fun q g hq => by
    match q, hq with
    | (k, none), hq => cases hq
    | (k, some x), hq => cases hq; exact ⟨x, rfl⟩
  by_cases h1 : p = 100
  · rw [if_pos h1] at h; obtain ⟨x, rfl⟩ := key _ _ h; simp [Nd.kids]
  · rw [if_neg h1] at h
    by_cases h2 : p = 116
    · rw [if_pos h2] at h; obtain ⟨x, rfl⟩ := key _ _ h; simp [Nd.kids]
    · rw [if_neg h2] at h
      by_cases h3 : p = 110
      · rw [if_pos h3] at h; obtain ⟨x, rfl⟩ := key _ _ h; simp [Nd.kids]
      · rw [if_neg h3] at h; obtain ⟨x, rfl⟩ := key _ _ h; simp [Nd.kids]
end Go.Proofs.YtdmkcemgbajdkaaDoor
