import Derived.Orders
import Derived.KernelRfl
import Derived.Laws.World
import Derived.Test.YtaecndmncpfpfaaGreatDoorCw
namespace Go.Proofs.YtaecndmncpfpfaaGreatDoor
def undone (l : Array Bool) : Nat := (l.toList.filter (fun b => !b)).length
theorem undone_list (l : List Bool) (i : Nat) (h : l[i]? = some false) : ((l.set i true).filter (fun b => !b)).length + 1 = (l.filter (fun b => !b)).length := by
 induction l generalizing i with
 | nil => simp at h
 | cons b r ih =>
   cases i with
   | zero => simp at h; subst h; simp
   | succ n =>
     simp at h
     have := ih n h
     cases b <;> simp <;> omega
theorem undone_set (l : Array Bool) (i : Nat) (h : l.getD i true = false) : undone (l.setIfInBounds i true) + 1 = undone l := by
 unfold undone
 have h1 : l.toList[i]? = some false := by
  rw [Array.getD_eq_getD_getElem?] at h
  rw [Array.getElem?_toList]
  cases hx : l[i]? with
  | none => rw [hx] at h; simp at h
  | some b => rw [hx] at h; simp at h; rw [h]
 rw [Array.toList_setIfInBounds]
 exact undone_list _ _ h1
theorem done_of_none (l : Array Bool) (h : undone l = 0) (i : Nat) : l.getD i true = true := by
 unfold undone at h
 rw [Array.getD_eq_getD_getElem?]
 cases hx : l[i]? with
 | none => rfl
 | some b =>
   have hm : b ∈ l.toList := by
    rw [← Array.getElem?_toList] at hx
    exact List.mem_of_getElem? hx
   have := List.eq_nil_of_length_eq_zero h
   rw [List.filter_eq_nil_iff] at this
   have := this b hm
   simp at this
   simp [this]
theorem zA {l : Array Bool} {i j : Nat} (h : i ≠ j) : (l.setIfInBounds i true).getD j false = l.getD j false := by
 rw [Array.getD_eq_getD_getElem?, Array.getD_eq_getD_getElem?, Array.getElem?_setIfInBounds_ne h]
variable {P : Program} {ops : Array Oper} {Q : Exit → Act → World → Prop} {md : Region.Mode}
theorem all_done (l : Array Bool) (hz : l.size = ops.size) (hac : ∀ (j : Nat) (o : Oper), ops[j]? = some o → ∀ e ∈ o.after, e.on < j) (h : Region.ready md ops l = []) : ∀ i, i < ops.size → l.getD i false = true := by
 intro i
 induction i using Nat.strongRecOn with
 | ind i ih =>
   intro hi
   by_cases hd : l.getD i true = false
   · exfalso
     have : i ∈ Region.ready md ops l := by
      rw [mem_ready]
      refine ⟨hd, ops[i], Array.getElem?_eq_getElem hi, fun e he _ => ?_⟩
      have := hac i ops[i] (Array.getElem?_eq_getElem hi) e he
      exact ih _ this (by omega)
     rw [h] at this
     cases this
   · have hi' : i < l.size := by omega
     rw [Array.getD_eq_getD_getElem?, Array.getElem?_eq_getElem hi'] at hd ⊢
     simpa using hd
theorem wpAny_inv (I : Array Bool → Act → World → Prop) (hz : ∀ l a w, I l a w → l.size = ops.size)
    (hs : ∀ l a w i o, I l a w → ops[i]? = some o → l.getD i true = false → (∀ e ∈ o.after, Region.binds md e = true → l.getD e.on false = true) → wpOp P ops Q i (fun a' w' => I (l.setIfInBounds i true) a' w') a w)
    (he : ∀ l a w, I l a w → (∀ i, i < ops.size → l.getD i false = true) → Q .normal a w)
    (hac : ∀ (j : Nat) (o : Oper), ops[j]? = some o → ∀ e ∈ o.after, e.on < j) :
    ∀ (fuel : Nat) l a w, I l a w → undone l ≤ fuel → wpAny P md ops Q fuel l a w := by
 intro fuel
 induction fuel with
 | zero =>
   intro l a w hI hu
   have hr : Region.ready md ops l = [] := by
    cases hc : Region.ready md ops l with
    | nil => rfl
    | cons j r =>
      have : j ∈ Region.ready md ops l := by rw [hc]; exact List.mem_cons_self
      have := (mem_ready.1 this).1
      rw [done_of_none l (by omega) j] at this
      cases this
   exact ⟨hr, he l a w hI (all_done l (hz l a w hI) hac hr)⟩
 | succ fuel ih =>
   intro l a w hI hu
   refine ⟨fun hr => he l a w hI (all_done l (hz l a w hI) hac hr), fun i hi => ?_⟩
   obtain ⟨hd, o, ho, hall⟩ := mem_ready.1 hi
   have := undone_set l i hd
   exact wpOp_mono (fun a' w' h' => ih _ a' w' h' (by omega)) (hs l a w i o hI ho hd hall)
def plainB (L : List Oper) : Bool := (List.range L.length).all fun j => match L[j]? with | some o => o.guard.isNone && o.after.all (fun e => decide (e.on < j)) | none => true
theorem plain_spec {L : List Oper} (h : plainB L = true) {j : Nat} {o : Oper} (ho : L[j]? = some o) : o.guard = none ∧ ∀ e ∈ o.after, e.on < j := by
 unfold plainB at h
 rw [List.all_eq_true] at h
 obtain ⟨hj, _⟩ := List.getElem?_eq_some_iff.1 ho
 have := h j (List.mem_range.2 hj)
 rw [ho] at this
 simp at this
 refine ⟨this.1, fun e he => ?_⟩
 obtain ⟨k, hk, rfl⟩ := Array.mem_iff_getElem.1 he
 exact this.2 k hk
def each (R : Nat → Oper → Prop) : Nat → List Oper → Prop
 | _, [] => True
 | n, o :: r => R n o ∧ each R (n + 1) r
theorem each_get {R : Nat → Oper → Prop} : ∀ (L : List Oper) (n : Nat), each R n L → ∀ j o, L[j]? = some o → R (n + j) o
 | [], _, _, j, o, h => by simp at h
 | b :: r, n, h, 0, o, ho => by simp at ho; subst ho; exact h.1
 | b :: r, n, h, j + 1, o, ho => by
   have := each_get r (n + 1) h.2 j o (by simpa using ho)
   rwa [show n + 1 + j = n + (j + 1) by omega] at this
theorem region_inv {id : Nat} {a : Act} {w : World} {L : List Oper} (I : Array Bool → Act → World → Prop) (hm : P.follows .mixedOrders = true) (hp : plainB L = true)
    (h0 : I (Array.replicate L.length false) a w.drew)
    (hz : ∀ l a w, I l a w → l.size = L.length)
    (hs : each (fun i o => ∀ l a w, I l a w → l.getD i true = false → (∀ e ∈ o.after, Region.binds .any e = true → l.getD e.on false = true) →
      ∀ K : Act → World → Prop, (∀ a' w', I (l.setIfInBounds i true) a' w' → K a' w') → o.wp P a w K Q) 0 L)
    (he : ∀ l a w, I l a w → (∀ i, i < L.length → l.getD i false = true) → Q .normal a w) : (Code.region id L.toArray true).wp P Q a w := by
 refine wp_region_any hm (wpAny_inv I (fun l a w h => by simpa using hz l a w h) (fun l a w i o hI ho hd hall => ?_) (fun l a w hI h => he l a w hI (by simpa using h)) (fun j o ho => (plain_spec hp (by simpa using ho)).2) _ _ _ _ (by simpa using h0) ?_)
 · have ho' : L[i]? = some o := by simpa using ho
   have hg := (plain_spec hp ho').1
   have h := each_get L 0 hs i o ho'
   rw [Nat.zero_add] at h
   unfold wpOp
   rw [ho]
   simp only
   rw [if_pos (by unfold Region.wanted; rw [hg])]
   exact .inl (h l a w hI hd hall _ (fun _ _ h => h))
 · unfold undone
   have := List.length_filter_le (fun b : Bool => !b) (Array.replicate L.toArray.size false).toList
   simp at this ⊢
end Go.Proofs.YtaecndmncpfpfaaGreatDoor
set_option linter.unusedVariables false
set_option linter.unusedSimpArgs false
namespace Go.Proofs.YtaecndmncpfpfaaGreatDoor
open Go.RowKit
set_option maxRecDepth 100000 in
theorem ofX (k : Int) (A : Option Addr) (n c : Nat) (w : World) :
    Calls Tryz.prog 96 #[.int .i64 k, .slice A n c] w fun e w' => e = .returned (.agg #[.int .i64 k, .slice A n c]) ∧ w' = w.alloc (.cells #[.int .i64 k, .slice A n c] 34) := by
 go_enter Tryz.func96, Tryz.ntmps96
 go_wp2_with (fail)
 refine bodyPost_ret (v := .agg #[.int .i64 k, .slice A n c]) (by simp [results, Tryz.results96, go_sem]) rfl ?_
 exact ⟨rfl, rfl⟩
def ptrB (q : Nat) : Value := .pointer (some ⟨q, 0, none⟩)
theorem ptrB_inj {q r : Nat} (h : ptrB q = ptrB r) : q = r := by unfold ptrB at h; cases h; rfl
def zBox : Obj := .cells #[.int .i64 0, .slice none 0 0] 34 (0, 0)
structure Ext (W W' : World) : Prop where
 size : W.heap.size ≤ W'.heap.size
 block : ∀ (b : Nat) (o : Obj), W.heap[b]? = some o → o ≠ zBox → W'.heap[b]? = some o
theorem Ext.refl (W : World) : Ext W W := ⟨Nat.le_refl _, fun _ _ h _ => h⟩
theorem Ext.alloc (W : World) (o : Obj) : Ext W (W.alloc o) := ⟨by simp, fun b o h _ => (Below.heap_alloc _ _ _ (zC h)).trans h⟩
theorem Ext.put {W : World} {q : Nat} (h : W.heap[q]? = some zBox) (x y : Value) : Ext W ((W.setCell ⟨q, 0, none⟩ x).setCell ⟨q, 1, none⟩ y) :=
 ⟨by simp [World.setCell], fun b o hb hne => (put2_far (fun e => hne (by rw [e, h] at hb; injection hb with hb; exact hb.symm)) x y).trans hb⟩
def SlB (lo : Nat) (W : World) (u : Value) (m : Nat) (cs : Array Value) : Prop := ∃ B, u = .slice (some ⟨B, 0, none⟩) m m ∧ lo ≤ B ∧ W.heap[B]? = some (.cells cs 34 (0, 0)) ∧ Obj.cells cs 34 (0, 0) ≠ zBox
def BxZ (lo : Nat) (W : World) (p : Value) : Prop := ∃ q, p = ptrB q ∧ lo ≤ q ∧ W.heap[q]? = some zBox
def BxV (lo : Nat) (W : World) (p : Value) (k : Int) (u : Value) : Prop := ∃ q, p = ptrB q ∧ lo ≤ q ∧ W.heap[q]? = some (.cells #[.int .i64 k, u] 34 (0, 0)) ∧ k ≠ 0
theorem SlB.ext {lo : Nat} {W W' : World} {u : Value} {m : Nat} {cs : Array Value} (h : SlB lo W u m cs) (he : Ext W W') : SlB lo W' u m cs := by
 obtain ⟨B, h1, h2, h3, h4⟩ := h
 exact ⟨B, h1, h2, he.block B _ h3 h4, h4⟩
theorem BxV.ext {lo : Nat} {W W' : World} {p u : Value} {k : Int} (h : BxV lo W p k u) (he : Ext W W') : BxV lo W' p k u := by
 obtain ⟨q, h1, h2, h3, h4⟩ := h
 exact ⟨q, h1, h2, he.block q _ h3 (fun e => by unfold zBox at e; injection e with e; have e := congrArg Array.toList e; simp at e; exact h4 e.1), h4⟩
theorem BxZ.alloc {lo : Nat} {W : World} {p : Value} (h : BxZ lo W p) (o : Obj) : BxZ lo (W.alloc o) p := by
 obtain ⟨q, h1, h2, h3⟩ := h
 exact ⟨q, h1, h2, (Below.heap_alloc _ _ _ (zC h3)).trans h3⟩
theorem BxZ.put {lo : Nat} {W : World} {p : Value} {q : Nat} (h : BxZ lo W p) (hne : p ≠ ptrB q) (x y : Value) : BxZ lo ((W.setCell ⟨q, 0, none⟩ x).setCell ⟨q, 1, none⟩ y) p := by
 obtain ⟨r, h1, h2, h3⟩ := h
 exact ⟨r, h1, h2, (put2_far (fun e => hne (by rw [h1, e])) x y).trans h3⟩
theorem BxZ.new {lo : Nat} {W : World} (h : lo ≤ W.heap.size) : BxZ lo (W.alloc (.cells #[.int .i64 0, .slice none 0 0] 34)) (ptrB W.heap.size) := ⟨_, rfl, h, heap_alloc_new W _⟩
theorem BxZ.ne {lo : Nat} {W : World} {p : Value} (h : BxZ lo W p) : p ≠ ptrB W.heap.size := by
 obtain ⟨q, h1, _, h3⟩ := h
 intro e
 have := zC h3
 have := ptrB_inj (h1.symm.trans e)
 omega
theorem BxV.ne {lo : Nat} {W : World} {p u : Value} {k : Int} (h : BxV lo W p k u) : p ≠ ptrB W.heap.size := by
 obtain ⟨q, h1, _, h3, _⟩ := h
 intro e
 have := zC h3
 have := ptrB_inj (h1.symm.trans e)
 omega
