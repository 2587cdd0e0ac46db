/-
A statement whose order Go leaves open, walked by what holds between its operations: if a condition on what has been done, on the frame and on the world is kept by every operation that may come up, then it holds behind all of them. No program is named here. Stage 11: pipe's statement, whose order is open. Stage 11: pipe.
-/
import Derived.Orders
import Derived.KernelRfl
import Derived.Laws.World
import Derived.Test.YtllnamhgnbdkmaaGreatDoorYg
set_option linter.unusedVariables false
set_option linter.unusedSimpArgs false
namespace Go.Proofs.YtllnamhgnbdkmaaGreatDoor
def undone (l : Array Bool) : Nat := (l.toList.filter (fun b => !b)).length
theorem undone_list (l : List Bool) (i : Nat) (h : l[i]? = some false) : ((l.set i true).filter (fun b => !b)).length + 1 = (l.filter (fun b => !b)).length := by
  induction l generalizing i with
  | nil => simp at h
  | cons b r ih =>
    cases i with
    | zero => simp at h; subst h; simp
    | succ n =>
      simp at h
      have := ih n h
      cases b <;> simp <;> omega
theorem undone_set (l : Array Bool) (i : Nat) (h : l.getD i true = false) : undone (l.setIfInBounds i true) + 1 = undone l := by
  unfold undone
  have h1 : l.toList[i]? = some false := by
    rw [Array.getD_eq_getD_getElem?] at h
    rw [Array.getElem?_toList]
    cases hx : l[i]? with
    | none => rw [hx] at h; simp at h
    | some b => rw [hx] at h; simp at h; rw [h]
  rw [Array.toList_setIfInBounds]
  exact undone_list _ _ h1
theorem done_of_none (l : Array Bool) (h : undone l = 0) (i : Nat) : l.getD i true = true := by
  unfold undone at h
  rw [Array.getD_eq_getD_getElem?]
  cases hx : l[i]? with
  | none => rfl
  | some b =>
    have hm : b ∈ l.toList := by
      rw [← Array.getElem?_toList] at hx
      exact List.mem_of_getElem? hx
    have := List.eq_nil_of_length_eq_zero h
    rw [List.filter_eq_nil_iff] at this
    have := this b hm
    simp at this
    simp [this]
theorem done_set_ne {l : Array Bool} {i j : Nat} (h : i ≠ j) : (l.setIfInBounds i true).getD j false = l.getD j false := by
  rw [Array.getD_eq_getD_getElem?, Array.getD_eq_getD_getElem?, Array.getElem?_setIfInBounds_ne h]
variable {P : Program} {ops : Array Oper} {Q : Exit → Act → World → Prop} {md : Region.Mode}
theorem all_done (l : Array Bool) (hz : l.size = ops.size) (hac : ∀ (j : Nat) (o : Oper), ops[j]? = some o → ∀ e ∈ o.after, e.on < j) (h : Region.ready md ops l = []) : ∀ i, i < ops.size → l.getD i false = true := by
  intro i
  induction i using Nat.strongRecOn with
  | ind i ih =>
    intro hi
    by_cases hd : l.getD i true = false
    · exfalso
      have : i ∈ Region.ready md ops l := by
        rw [mem_ready]
        refine ⟨hd, ops[i], Array.getElem?_eq_getElem hi, fun e he _ => ?_⟩
        have := hac i ops[i] (Array.getElem?_eq_getElem hi) e he
        exact ih _ this (by omega)
      rw [h] at this
      cases this
    · have hi' : i < l.size := by omega
      rw [Array.getD_eq_getD_getElem?, Array.getElem?_eq_getElem hi'] at hd ⊢
      simpa using hd
theorem wpAny_inv (I : Array Bool → Act → World → Prop) (hz : ∀ l a w, I l a w → l.size = ops.size)
    (hs : ∀ l a w i o, I l a w → ops[i]? = some o → l.getD i true = false → (∀ e ∈ o.after, Region.binds md e = true → l.getD e.on false = true) → wpOp P ops Q i (fun a' w' => I (l.setIfInBounds i true) a' w') a w)
    (he : ∀ l a w, I l a w → (∀ i, i < ops.size → l.getD i false = true) → Q .normal a w)
    (hac : ∀ (j : Nat) (o : Oper), ops[j]? = some o → ∀ e ∈ o.after, e.on < j) :
    ∀ (fuel : Nat) l a w, I l a w → undone l ≤ fuel → wpAny P md ops Q fuel l a w := by
  intro fuel
  induction fuel with
  | zero =>
    intro l a w hI hu
    have hr : Region.ready md ops l = [] := by
      cases hc : Region.ready md ops l with
      | nil => rfl
      | cons j r =>
        have : j ∈ Region.ready md ops l := by rw [hc]; exact List.mem_cons_self
        have := (mem_ready.1 this).1
        rw [done_of_none l (by omega) j] at this
        cases this
    exact ⟨hr, he l a w hI (all_done l (hz l a w hI) hac hr)⟩
  | succ fuel ih =>
    intro l a w hI hu
    refine ⟨fun hr => he l a w hI (all_done l (hz l a w hI) hac hr), fun i hi => ?_⟩
    obtain ⟨hd, o, ho, hall⟩ := mem_ready.1 hi
    have := undone_set l i hd
    exact wpOp_mono (fun a' w' h' => ih _ a' w' h' (by omega)) (hs l a w i o hI ho hd hall)
def plainB (L : List Oper) : Bool := (List.range L.length).all fun j => match L[j]? with | some o => o.guard.isNone && o.after.all (fun e => decide (e.on < j)) | none => true
theorem plain_spec {L : List Oper} (h : plainB L = true) {j : Nat} {o : Oper} (ho : L[j]? = some o) : o.guard = none ∧ ∀ e ∈ o.after, e.on < j := by
  unfold plainB at h
  rw [List.all_eq_true] at h
  obtain ⟨hj, _⟩ := List.getElem?_eq_some_iff.1 ho
  have := h j (List.mem_range.2 hj)
  rw [ho] at this
  simp at this
  refine ⟨this.1, fun e he => ?_⟩
  obtain ⟨k, hk, rfl⟩ := Array.mem_iff_getElem.1 he
  exact this.2 k hk
def each (R : Nat → Oper → Prop) : Nat → List Oper → Prop
  | _, [] => True
  | n, o :: r => R n o ∧ each R (n + 1) r
theorem each_get {R : Nat → Oper → Prop} : ∀ (L : List Oper) (n : Nat), each R n L → ∀ j o, L[j]? = some o → R (n + j) o
  | [], _, _, j, o, h => by simp at h
  | b :: r, n, h, 0, o, ho => by simp at ho; subst ho; exact h.1
  | b :: r, n, h, j + 1, o, ho => by
    have := each_get r (n + 1) h.2 j o (by simpa using ho)
    rwa [show n + 1 + j = n + (j + 1) by omega] at this
theorem region_inv {id : Nat} {a : Act} {w : World} {L : List Oper} (I : Array Bool → Act → World → Prop) (hm : P.follows .mixedOrders = true) (hp : plainB L = true)
    (h0 : I (Array.replicate L.length false) a w.drew)
    (hz : ∀ l a w, I l a w → l.size = L.length)
    (hs : each (fun i o => ∀ l a w, I l a w → l.getD i true = false → (∀ e ∈ o.after, Region.binds .any e = true → l.getD e.on false = true) →
      ∀ K : Act → World → Prop, (∀ a' w', I (l.setIfInBounds i true) a' w' → K a' w') → o.wp P a w K Q) 0 L)
    (he : ∀ l a w, I l a w → (∀ i, i < L.length → l.getD i false = true) → Q .normal a w) : (Code.region id L.toArray true).wp P Q a w := by
  refine wp_region_any hm (wpAny_inv I (fun l a w h => by simpa using hz l a w h) (fun l a w i o hI ho hd hall => ?_) (fun l a w hI h => he l a w hI (by simpa using h)) (fun j o ho => (plain_spec hp (by simpa using ho)).2) _ _ _ _ (by simpa using h0) ?_)
  · have ho' : L[i]? = some o := by simpa using ho
    have hg := (plain_spec hp ho').1
    have h := each_get L 0 hs i o ho'
    rw [Nat.zero_add] at h
    unfold wpOp
    rw [ho]
    simp only
    rw [if_pos (by unfold Region.wanted; rw [hg])]
    exact .inl (h l a w hI hd hall _ (fun _ _ h => h))
  · unfold undone
    have := List.length_filter_le (fun b : Bool => !b) (Array.replicate L.toArray.size false).toList
    simp at this ⊢
end Go.Proofs.YtllnamhgnbdkmaaGreatDoor
namespace Go.Proofs.YtllnamhgnbdkmaaGreatDoor
open Go.RowKit Go.Shelf Go.Sort
def C7 (NB : Nat) (l : List Int) (W : World) (u : Value) : Prop := ∃ X x, u = .slice X l.length x ∧ IntsAt W (fun b => NB + 1 ≤ b) (.slice X l.length x) l
def C16 (NB d : Nat) (n : Gn) (W : World) (u : Value) : Prop := ∃ X x, u = .agg #[.int .i64 n.ty.kind, .slice X n.ty.args.length x] ∧ TyAt W (fun b => NB + 1 ≤ b) d (.agg #[.int .i64 n.ty.kind, .slice X n.ty.args.length x]) n.ty
def C21 (NB d : Nat) (n : Gn) (W : World) (u : Value) : Prop := ∃ X Y Z x y z, u = .agg #[.int .i64 n.op, .slice X n.ins.length x, .slice Y n.side.length y, .string ⟨n.text.toArray⟩, .int .i64 n.ty.kind, .slice Z n.ty.args.length z, .int .i64 n.f0, .int .i64 n.f1, .int .i64 n.f2, .int .i64 n.f3, .int .i64 n.e, .int .i64 n.l, .int .i64 n.lt, .bool n.acc] ∧ GnAt W (fun b => NB + 1 ≤ b) d (n.val X Y Z x y z) n
def C22 (NB d : Nat) (n : Gn) (W : World) (u : Value) : Prop := ∃ B X Y Z x y z, u = .slice (some ⟨B, 0, none⟩) 1 1 ∧ W.heap[B]? = some (.cells #[.int .i64 n.op, .slice X n.ins.length x, .slice Y n.side.length y, .string ⟨n.text.toArray⟩, .int .i64 n.ty.kind, .slice Z n.ty.args.length z, .int .i64 n.f0, .int .i64 n.f1, .int .i64 n.f2, .int .i64 n.f3, .int .i64 n.e, .int .i64 n.l, .int .i64 n.lt, .bool n.acc] 83 (0, 0)) ∧ GnAt W (fun b => NB + 1 ≤ b) d (n.val X Y Z x y z) n
def C23 (w : World) (d : Nat) (pre : List Gn) (n : Gn) (W : World) (u : Value) : Prop := ∃ GA gc, u = .slice GA (pre.length + 1) gc ∧ NsO W (w.heap.size + 2) d (.slice GA (pre.length + 1) gc) (pre ++ [n])
theorem C7.below {NB : Nat} {l : List Int} {W W' : World} {u : Value} (h : C7 NB l W u) (hb : Below W.heap.size W W') : C7 NB l W' u := by
  obtain ⟨X, x, e, h⟩ := h
  exact ⟨X, x, e, h.below hb⟩
theorem C16.below {NB d : Nat} {n : Gn} {W W' : World} {u : Value} (h : C16 NB d n W u) (hb : Below W.heap.size W W') : C16 NB d n W' u := by
  obtain ⟨X, x, e, h⟩ := h
  exact ⟨X, x, e, TyAt.move (fun b hb' hl => ⟨hb', fun _ => World.cell?_of_block (hb.block b hl)⟩) _ _ _ h⟩
theorem C21.below {NB d : Nat} {n : Gn} {W W' : World} {u : Value} (h : C21 NB d n W u) (hb : Below W.heap.size W W') : C21 NB d n W' u := by
  obtain ⟨X, Y, Z, x, y, z, e, h⟩ := h
  exact ⟨X, Y, Z, x, y, z, e, h.below hb⟩
theorem C22.below {NB d : Nat} {n : Gn} {W W' : World} {u : Value} (h : C22 NB d n W u) (hb : Below W.heap.size W W') : C22 NB d n W' u := by
  obtain ⟨B, X, Y, Z, x, y, z, e, h1, h⟩ := h
  exact ⟨B, X, Y, Z, x, y, z, e, bl_blk hb h1, h.below hb⟩
theorem C23.below {w : World} {d : Nat} {pre : List Gn} {n : Gn} {W W' : World} {u : Value} (h : C23 w d pre n W u) (hb : Below W.heap.size W W') : C23 w d pre n W' u := by
  obtain ⟨GA, gc, e, h⟩ := h
  exact ⟨GA, gc, e, h.keep hb⟩
theorem NsO.far {w : World} {B d i p : Nat} {u v : Value} {l : List Gn} (h : NsO w B d v l) (hp : p < B) : NsO (w.setCell ⟨p, i, none⟩ u) B d v l := by
  have hg : w.grownBy (w.setCell ⟨p, i, none⟩ u) (some p) := ⟨rfl, rfl, rfl, by simp [World.setCell], fun k hk hne => Below.heap_setCell w ⟨p, i, none⟩ u k (fun e => hne (by rw [e]))⟩
  obtain ⟨xs, ho, hn⟩ := h
  refine ⟨xs, ho.kept hg (.inr fun e => ?_), fun j n hj => ?_⟩
  · have := (ho.lt p e).1
    omega
  · obtain ⟨IA, SA, A, ic, sc, c, hgn, hu⟩ := hn j n hj
    refine ⟨IA, SA, A, ic, sc, c, hgn.move fun b hb hl => ⟨hb, by simpa [World.setCell] using hl, fun o => World.cell?_of_block (Below.heap_setCell w ⟨p, i, none⟩ u b (fun e => ?_))⟩, hu⟩
    have h1 := hb.1
    have e' : b = p := e
    omega
theorem kz {x : Bool} (l : Array Bool) (i j : Nat) (h : (l.setIfInBounds i true).getD j false = x) (hn : i ≠ j := by decide) : l.getD j false = x := (done_set_ne (l := l) (i := i) (j := j) hn).symm.trans h
theorem pNo {l : Array Bool} {i : Nat} (h : l.getD i true = false) : l.getD i false = false := by
  rw [Array.getD_eq_getD_getElem?] at h ⊢
  cases hx : l[i]? with
  | none => rfl
  | some b => rw [hx] at h; simpa using h
theorem pSelf {l : Array Bool} {i : Nat} (h : i < l.size) : (l.setIfInBounds i true).getD i false = true := by
  rw [Array.getD_eq_getD_getElem?, Array.getElem?_setIfInBounds_self]
  simp [h]
theorem pMono {l : Array Bool} {i j : Nat} (h : l.getD j false = true) : (l.setIfInBounds i true).getD j false = true := by
  by_cases e : i = j
  · subst e
    refine pSelf ?_
    rw [Array.getD_eq_getD_getElem?] at h
    cases hx : l[i]? with
    | none => rw [hx] at h; cases h
    | some b => exact (Array.getElem?_eq_some_iff.1 hx).1
  · rw [done_set_ne e]
    exact h
theorem pAbs {l : Array Bool} {i : Nat} {p : Prop} (hn : l.getD i true = false) (h : l.getD i false = true) : p := by
  rw [pNo hn] at h
  cases h
theorem pAbs2 {l : Array Bool} {i : Nat} {p : Prop} (hz : i < l.size) (h : (l.setIfInBounds i true).getD i false = false) : p := by
  rw [pSelf hz] at h
  cases h
theorem pRep {m i : Nat} : (Array.replicate m false).getD i false = false := by
  rw [Array.getD_eq_getD_getElem?, Array.getElem?_replicate]
  split <;> rfl
end Go.Proofs.YtllnamhgnbdkmaaGreatDoor
namespace Go.Proofs.YtllnamhgnbdkmaaGreatDoor
open Go.RowKit Go.Shelf Go.Sort
end Go.Proofs.YtllnamhgnbdkmaaGreatDoor
