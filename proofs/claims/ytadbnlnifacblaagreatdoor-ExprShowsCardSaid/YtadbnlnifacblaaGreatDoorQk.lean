/-
The node that a word's parts are laid to: the document's answer.
-/
import Derived.Test.YtadbnlnifacblaaGreatDoorQp
import Derived.Test.YtadbnlnifacblaaGreatDoorPn
import Derived.Test.YtadbnlnifacblaaGreatDoorFt
namespace Go.Proofs.YtadbnlnifacblaaGreatDoor
open Go.RowKit
structure PnD (w : World) (P d : Nat) (nd : Nd) (A : Option Addr) (c : Nat) (vs : Value) (cs : List Value) : Prop where
  own : w.ownsRow (P + 1) 37 6 vs nd.kids.length cs
  box : w.heap[P]? = some (.cells #[.string ⟨nd.op.toArray⟩, .int .i64 nd.int, .string ⟨nd.text.toArray⟩, .int .i64 nd.ty.kind, .slice A nd.ty.args.length c, vs] 37 (0, 0))
  ty : ∃ dt, TyAt w (fun b => P < b ∧ some b ≠ vs.ownBlock) dt (.agg #[.int .i64 nd.ty.kind, .slice A nd.ty.args.length c]) nd.ty
  args : ∀ (i : Nat) (a : Nd), nd.kids[i]? = some a → ∃ u0 u1 u2 u3 u4 u5, cs[i * 6]? = some u0 ∧ cs[i * 6 + 1]? = some u1 ∧ cs[i * 6 + 2]? = some u2 ∧ cs[i * 6 + 3]? = some u3 ∧ cs[i * 6 + 4]? = some u4 ∧ cs[i * 6 + 5]? = some u5 ∧ NdAt w (fun b => P < b ∧ some b ≠ vs.ownBlock) d (.agg #[u0, u1, u2, u3, u4, u5]) a
def AfD (W wx : World) (P n : Nat) (vs : Value) (cs us : List Value) : Prop := ∃ g cap, wx.ownsRow (P + 1) 37 6 (.slice (some ⟨g, 0, none⟩) (n + 1) cap) (n + 1) (cs ++ us) ∧
  (∀ a0 a1 a2 a3 a4, W.heap[P]? = some (.cells #[a0, a1, a2, a3, a4, vs] 37 (0, 0)) → wx.heap[P]? = some (.cells #[a0, a1, a2, a3, a4, .slice (some ⟨g, 0, none⟩) (n + 1) cap] 37 (0, 0))) ∧ (vs.ownBlock = some g ∨ W.heap.size ≤ g) ∧
  wx.os = W.os ∧ wx.tape = W.tape ∧ wx.output = W.output ∧ W.heap.size ≤ wx.heap.size ∧ ∀ k, k < W.heap.size → k ≠ P → some k ≠ vs.ownBlock → wx.heap[k]? = W.heap[k]?
theorem afd_pn {w W wx : World} {R P d c : Nat} {nd k : Nd} {A : Option Addr} {vs : Value} {cs : List Value} {u0 u1 u2 u3 u4 u5 : Value} (hN : PnD w P d nd A c vs cs) (hRP : R < P) (hO : Only R w W) (hA : AfD W wx P nd.kids.length vs cs [u0, u1, u2, u3, u4, u5])
    (hv : NdAt W (fun b => w.heap.size ≤ b) d (.agg #[u0, u1, u2, u3, u4, u5]) k) : ∃ vs' cs', PnD wx P d (.mk nd.op nd.int nd.text nd.ty (nd.kids ++ [k])) A c vs' cs' ∧ OwnTo w vs vs' := by
  obtain ⟨g, cap, hown, hbox, hat, _, _, _, hsz, hblk⟩ := hA
  have hPl := cell_lt hN.box
  have hs := hO.size
  have hown0 := hN.own.lt
  have hl : cs.length = nd.kids.length * 6 := hN.own.1
  have hmv : ∀ b, (P < b ∧ some b ≠ vs.ownBlock) → b < w.heap.size → (P < b ∧ some b ≠ (Value.slice (some ⟨g, 0, none⟩) (nd.kids.length + 1) cap).ownBlock) ∧ ∀ o, wx.cell? ⟨b, o, none⟩ = w.cell? ⟨b, o, none⟩ := fun b hb hlt =>
    ⟨⟨hb.1, fun e => by
        have e2 : b = g := by simpa [Value.ownBlock] using e
        rcases hat with h | h
        · exact hb.2 (by rw [h, e2])
        · omega⟩,
      fun o => World.cell?_of_block ((hblk b (by omega) (by omega) hb.2).trans (hO.block b hlt (by simp; omega)))⟩
  have hmw : ∀ b, w.heap.size ≤ b → b < W.heap.size → (P < b ∧ some b ≠ (Value.slice (some ⟨g, 0, none⟩) (nd.kids.length + 1) cap).ownBlock) ∧ ∀ o, wx.cell? ⟨b, o, none⟩ = W.cell? ⟨b, o, none⟩ := fun b hb hlt => by
    have hne : some b ≠ vs.ownBlock := fun e => by have := (hown0 b e.symm).2; omega
    exact ⟨⟨by omega, fun e => by
        have e2 : b = g := by simpa [Value.ownBlock] using e
        rcases hat with h | h
        · exact hne (by rw [h, e2])
        · omega⟩,
      fun o => World.cell?_of_block (hblk b hlt (by omega) hne)⟩
  refine ⟨.slice (some ⟨g, 0, none⟩) (nd.kids.length + 1) cap, cs ++ [u0, u1, u2, u3, u4, u5], ⟨?_, ?_, ?_, fun i a ha => ?_⟩, hat.elim (fun h => .inl h.symm) (fun h => .inr fun g' hg' => by have e2 : g = g' := (by simpa [Value.ownBlock] using hg'); omega)⟩
  · simpa [Nd.kids] using hown
  · exact hbox _ _ _ _ _ ((hO.block P hPl (by simp; omega)).trans hN.box)
  · obtain ⟨dt, ht⟩ := hN.ty
    exact ⟨dt, TyAt.move hmv dt _ _ ht⟩
  · have ha' : (nd.kids ++ [k])[i]? = some a := ha
    rcases Nat.lt_or_ge i nd.kids.length with h | h
    · rw [List.getElem?_append_left h] at ha'
      obtain ⟨x0, x1, x2, x3, x4, x5, e0, e1, e2, e3, e4, e5, hx⟩ := hN.args i a ha'
      exact ⟨x0, x1, x2, x3, x4, x5, by rw [List.getElem?_append_left (by omega)]; exact e0, by rw [List.getElem?_append_left (by omega)]; exact e1, by rw [List.getElem?_append_left (by omega)]; exact e2, by rw [List.getElem?_append_left (by omega)]; exact e3, by rw [List.getElem?_append_left (by omega)]; exact e4, by rw [List.getElem?_append_left (by omega)]; exact e5, NdAt.move hmv d _ _ hx⟩
    · rw [List.getElem?_append_right h] at ha'
      have hi : i = nd.kids.length := by
        rcases Nat.lt_or_ge (i - nd.kids.length) 1 with h1 | h1
        · omega
        · rw [List.getElem?_eq_none (by simpa using h1)] at ha'; cases ha'
      subst hi
      rw [Nat.sub_self] at ha'
      have hka : k = a := by simpa using ha'
      subst hka
      have hz : ∀ (j : Nat) (u : Value), [u0, u1, u2, u3, u4, u5][j]? = some u → (cs ++ [u0, u1, u2, u3, u4, u5])[nd.kids.length * 6 + j]? = some u := fun j u hu => by
        rw [List.getElem?_append_right (by omega), ← hu]
        congr 1
        omega
      exact ⟨u0, u1, u2, u3, u4, u5, hz 0 u0 rfl, hz 1 u1 rfl, hz 2 u2 rfl, hz 3 u3 rfl, hz 4 u4 rfl, hz 5 u5 rfl, NdAt.move hmw d _ _ hv⟩
theorem PnD.only {w W : World} {R P d c : Nat} {nd : Nd} {A : Option Addr} {vs : Value} {cs : List Value} (hN : PnD w P d nd A c vs cs) (hRP : R < P) (hO : Only R w W) : PnD W P d nd A c vs cs := by
  have hmv : ∀ b, (P < b ∧ some b ≠ vs.ownBlock) → b < w.heap.size → (P < b ∧ some b ≠ vs.ownBlock) ∧ ∀ o, W.cell? ⟨b, o, none⟩ = w.cell? ⟨b, o, none⟩ := fun b hb hl => ⟨hb, fun o => World.cell?_of_block (hO.block b hl (by simp; omega))⟩
  refine ⟨?_, (hO.block P (cell_lt hN.box) (by simp; omega)).trans hN.box, ?_, fun i a ha => ?_⟩
  · refine hN.own.kept (row := some R) hO ?_
    cases e : vs.ownBlock with
    | none => exact .inl rfl
    | some g => exact .inr (fun e2 => by have := (hN.own.lt g e).1; injection e2; omega)
  · obtain ⟨dt, ht⟩ := hN.ty
    exact ⟨dt, TyAt.move hmv dt _ _ ht⟩
  · obtain ⟨x0, x1, x2, x3, x4, x5, e0, e1, e2, e3, e4, e5, hx⟩ := hN.args i a ha
    exact ⟨x0, x1, x2, x3, x4, x5, e0, e1, e2, e3, e4, e5, NdAt.move hmv d _ _ hx⟩
theorem PnD.int {w : World} {P d c : Nat} {nd : Nd} {A : Option Addr} {vs : Value} {cs : List Value} (hN : PnD w P d nd A c vs cs) (i : Int) : PnD (w.setCell ⟨P, 1, none⟩ (.int .i64 i)) P d (.mk nd.op i nd.text nd.ty nd.kids) A c vs cs := by
  have hO := Only.set_ P 1 w (.int .i64 i)
  have hmv : ∀ b, (P < b ∧ some b ≠ vs.ownBlock) → b < w.heap.size → (P < b ∧ some b ≠ vs.ownBlock) ∧ ∀ o, (w.setCell ⟨P, 1, none⟩ (.int .i64 i)).cell? ⟨b, o, none⟩ = w.cell? ⟨b, o, none⟩ := fun b hb hl => ⟨hb, fun o => World.cell?_of_block (hO.block b hl (by simp; omega))⟩
  refine ⟨?_, ?_, ?_, fun j a ha => ?_⟩
  · refine hN.own.kept (row := some P) hO ?_
    cases e : vs.ownBlock with
    | none => exact .inl rfl
    | some g => exact .inr (fun e2 => by have := (hN.own.lt g e).1; injection e2; omega)
  · have h := hN.box
    simp [World.setCell, Array.getElem?_modify, h, Nd.op, Nd.int, Nd.text, Nd.ty]
  · obtain ⟨dt, ht⟩ := hN.ty
    exact ⟨dt, TyAt.move hmv dt _ _ ht⟩
  · obtain ⟨x0, x1, x2, x3, x4, x5, e0, e1, e2, e3, e4, e5, hx⟩ := hN.args j a ha
    exact ⟨x0, x1, x2, x3, x4, x5, e0, e1, e2, e3, e4, e5, NdAt.move hmv d _ _ hx⟩
theorem PnD.type {w0 : Nat} {w : World} {P d c c' : Nat} {nd : Nd} {A A' : Option Addr} {vs : Value} {cs : List Value} {t : Ty} {dt : Nat} (hN : PnD w P d nd A c vs cs) (h0 : ∀ b, w0 ≤ b → P < b ∧ some b ≠ vs.ownBlock) (ht : TyAt w (fun b => w0 ≤ b) dt (.agg #[.int .i64 t.kind, .slice A' t.args.length c']) t) :
    PnD ((w.setCell ⟨P, 3, none⟩ (.int .i64 t.kind)).setCell ⟨P, 4, none⟩ (.slice A' t.args.length c')) P d (.mk nd.op nd.int nd.text t nd.kids) A' c' vs cs := by
  have hO := (Only.set_ P 3 w (.int .i64 t.kind)).trans (Only.set_ P 4 _ (.slice A' t.args.length c'))
  have hmv : ∀ b, (P < b ∧ some b ≠ vs.ownBlock) → b < w.heap.size → (P < b ∧ some b ≠ vs.ownBlock) ∧ ∀ o, ((w.setCell ⟨P, 3, none⟩ (.int .i64 t.kind)).setCell ⟨P, 4, none⟩ (.slice A' t.args.length c')).cell? ⟨b, o, none⟩ = w.cell? ⟨b, o, none⟩ := fun b hb hl => ⟨hb, fun o => World.cell?_of_block (hO.block b hl (by simp; omega))⟩
  refine ⟨?_, ?_, ?_, fun j a ha => ?_⟩
  · refine hN.own.kept (row := some P) hO ?_
    cases e : vs.ownBlock with
    | none => exact .inl rfl
    | some g => exact .inr (fun e2 => by have := (hN.own.lt g e).1; injection e2; omega)
  · have h := hN.box
    simp [World.setCell, Array.getElem?_modify, h, Nd.op, Nd.int, Nd.text, Nd.ty]
  · exact ⟨dt, TyAt.move (fun b hb hl => hmv b (h0 b hb) hl) dt _ _ ht⟩
  · obtain ⟨x0, x1, x2, x3, x4, x5, e0, e1, e2, e3, e4, e5, hx⟩ := hN.args j a ha
    exact ⟨x0, x1, x2, x3, x4, x5, e0, e1, e2, e3, e4, e5, NdAt.move hmv d _ _ hx⟩
theorem PnD.nd {w : World} {P d c : Nat} {nd : Nd} {A : Option Addr} {vs : Value} {cs : List Value} (h : PnD w P d nd A c vs cs) :
    NdAt w (fun b => P < b) (d + 1) (.agg #[.string ⟨nd.op.toArray⟩, .int .i64 nd.int, .string ⟨nd.text.toArray⟩, .int .i64 nd.ty.kind, .slice A nd.ty.args.length c, vs]) nd := by
  have hcs : cs.length = nd.kids.length * 6 := h.own.1
  obtain ⟨dt, ht⟩ := h.ty
  have hty : ∃ dt, TyAt w (fun b => P < b) dt (.agg #[.int .i64 nd.ty.kind, .slice A nd.ty.args.length c]) nd.ty := ⟨dt, TyAt.move (fun b hb _ => ⟨hb.1, fun _ => rfl⟩) dt _ _ ht⟩
  rcases h.own.2 with ⟨hv, hn⟩ | ⟨g, cap, cur, hv, hb, hg, hn, hm, hsz, htk⟩
  · subst hv
    refine ⟨A, c, none, 0, ?_, hty, by omega, fun hl => absurd hl (by omega)⟩
    rw [hn]
  · subst hv
    refine ⟨A, c, some ⟨g, 0, none⟩, cap, rfl, hty, by omega, fun hl => ⟨g, 0, rfl, by omega, fun j a ha => ?_⟩⟩
    obtain ⟨u0, u1, u2, u3, u4, u5, e0, e1, e2, e3, e4, e5, hx⟩ := h.args j a ha
    have hc : ∀ k u, cs[k]? = some u → w.cell? ⟨g, k, none⟩ = some u := fun k u hu => by
      have hk : k < cs.length := by
        rcases Nat.lt_or_ge k cs.length with h1 | h1
        · exact h1
        · rw [List.getElem?_eq_none h1] at hu; cases hu
      rw [h.own.cellAt k (by omega), hu]
    simp only [Nat.zero_add]
    exact ⟨u0, u1, u2, u3, u4, u5, hc _ _ e0, hc _ _ e1, hc _ _ e2, hc _ _ e3, hc _ _ e4, hc _ _ e5, NdAt.move (fun b hb _ => ⟨hb.1, fun _ => rfl⟩) d _ _ hx⟩
theorem PnD.more {w : World} {P d e c : Nat} {nd : Nd} {A : Option Addr} {vs : Value} {cs : List Value} (h : PnD w P d nd A c vs cs) (hde : d ≤ e) : PnD w P e nd A c vs cs :=
  ⟨h.own, h.box, h.ty, fun i a ha => by
    obtain ⟨u0, u1, u2, u3, u4, u5, e0, e1, e2, e3, e4, e5, hx⟩ := h.args i a ha
    exact ⟨u0, u1, u2, u3, u4, u5, e0, e1, e2, e3, e4, e5, NdAt.more _ _ _ _ hde hx⟩⟩
theorem PnD.new (w : World) (t : List UInt8) : PnD (w.alloc (.cells #[.string ⟨t.toArray⟩, .int .i64 0, .string ⟨#[]⟩, .int .i64 0, .slice none 0 0, .slice none 0 0] 37)) w.heap.size 1 (.mk t 0 [] ty0 []) none 0 (.slice none 0 0) [] :=
  ⟨World.ownsRow_nil _ _ _ _, heap_alloc_new w (.cells #[.string ⟨t.toArray⟩, .int .i64 0, .string ⟨#[]⟩, .int .i64 0, .slice none 0 0, .slice none 0 0] 37), ⟨1, ty_zero _ _⟩, fun i a ha => by simp [Nd.kids] at ha⟩
theorem afd_below {B : Nat} {W wx : World} {P n : Nat} {vs : Value} {cs us : List Value} (hA : AfD W wx P n vs cs us) (hb : ∀ g, vs.ownBlock = some g → P + 1 ≤ g) (hBP : B ≤ P) (hP : P < W.heap.size) : Below B W wx := by
  obtain ⟨g, cap, _, _, _, h1, h2, h3, h4, h5⟩ := hA
  exact ⟨h1, h2, h3, by omega, fun k hk => h5 k (by omega) (by omega) (fun e => by have := hb k e.symm; omega)⟩
end Go.Proofs.YtadbnlnifacblaaGreatDoor
