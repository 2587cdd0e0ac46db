/-
A statement whose order Go leaves open, walked by what holds between its operations: if a condition on what has been done, on the frame and on the world is kept by every operation that may come up, then it holds behind all of them. No program is named here. Stage 11: pipe's statement, whose order is open. Stage 11: pipe.
-/
import Derived.Orders
import Derived.KernelRfl
import Derived.Laws.World
import Derived.Test.YtllnamhgnbdkmaaGreatDoorYg
set_option linter.unusedVariables false
set_option linter.unusedSimpArgs false
namespace Go.Proofs.YtllnamhgnbdkmaaGreatDoor

/-- How many are still to come. -/
def undone (l : Array Bool) : Nat := (l.toList.filter (fun b => !b)).length

theorem undone_list (l : List Bool) (i : Nat) (h : l[i]? = some false) : ((l.set i true).filter (fun b => !b)).length + 1 = (l.filter (fun b => !b)).length := by
  induction l generalizing i with
  | nil => simp at h
  | cons b r ih =>
    cases i with
    | zero => simp at h; subst h; simp
    | succ n =>
      simp at h
      have := ih n h
      cases b <;> simp <;> omega

theorem undone_set (l : Array Bool) (i : Nat) (h : l.getD i true = false) : undone (l.setIfInBounds i true) + 1 = undone l := by
  unfold undone
  have h1 : l.toList[i]? = some false := by
    rw [Array.getD_eq_getD_getElem?] at h
    rw [Array.getElem?_toList]
    cases hx : l[i]? with
    | none => rw [hx] at h; simp at h
    | some b => rw [hx] at h; simp at h; rw [h]
  rw [Array.toList_setIfInBounds]
  exact undone_list _ _ h1

theorem done_of_none (l : Array Bool) (h : undone l = 0) (i : Nat) : l.getD i true = true := by
  unfold undone at h
  rw [Array.getD_eq_getD_getElem?]
  cases hx : l[i]? with
  | none => rfl
  | some b =>
    have hm : b ∈ l.toList := by
      rw [← Array.getElem?_toList] at hx
      exact List.mem_of_getElem? hx
    have := List.eq_nil_of_length_eq_zero h
    rw [List.filter_eq_nil_iff] at this
    have := this b hm
    simp at this
    simp [this]

theorem done_set_ne {l : Array Bool} {i j : Nat} (h : i ≠ j) : (l.setIfInBounds i true).getD j false = l.getD j false := by
  rw [Array.getD_eq_getD_getElem?, Array.getD_eq_getD_getElem?, Array.getElem?_setIfInBounds_ne h]

variable {P : Program} {ops : Array Oper} {Q : Exit → Act → World → Prop} {md : Region.Mode}

theorem all_done (l : Array Bool) (hz : l.size = ops.size) (hac : ∀ (j : Nat) (o : Oper), ops[j]? = some o → ∀ e ∈ o.after, e.on < j) (h : Region.ready md ops l = []) : ∀ i, i < ops.size → l.getD i false = true := by
  intro i
  induction i using Nat.strongRecOn with
  | ind i ih =>
    intro hi
    by_cases hd : l.getD i true = false
    · exfalso
      have : i ∈ Region.ready md ops l := by
        rw [mem_ready]
        refine ⟨hd, ops[i], Array.getElem?_eq_getElem hi, fun e he _ => ?_⟩
        have := hac i ops[i] (Array.getElem?_eq_getElem hi) e he
        exact ih _ this (by omega)
      rw [h] at this
      cases this
    · have hi' : i < l.size := by omega
      rw [Array.getD_eq_getD_getElem?, Array.getElem?_eq_getElem hi'] at hd ⊢
      simpa using hd

theorem wpAny_inv (I : Array Bool → Act → World → Prop) (hz : ∀ l a w, I l a w → l.size = ops.size)
    (hs : ∀ l a w i o, I l a w → ops[i]? = some o → l.getD i true = false → (∀ e ∈ o.after, Region.binds md e = true → l.getD e.on false = true) → wpOp P ops Q i (fun a' w' => I (l.setIfInBounds i true) a' w') a w)
    (he : ∀ l a w, I l a w → (∀ i, i < ops.size → l.getD i false = true) → Q .normal a w)
    (hac : ∀ (j : Nat) (o : Oper), ops[j]? = some o → ∀ e ∈ o.after, e.on < j) :
    ∀ (fuel : Nat) l a w, I l a w → undone l ≤ fuel → wpAny P md ops Q fuel l a w := by
  intro fuel
  induction fuel with
  | zero =>
    intro l a w hI hu
    have hr : Region.ready md ops l = [] := by
      cases hc : Region.ready md ops l with
      | nil => rfl
      | cons j r =>
        have : j ∈ Region.ready md ops l := by rw [hc]; exact List.mem_cons_self
        have := (mem_ready.1 this).1
        rw [done_of_none l (by omega) j] at this
        cases this
    exact ⟨hr, he l a w hI (all_done l (hz l a w hI) hac hr)⟩
  | succ fuel ih =>
    intro l a w hI hu
    refine ⟨fun hr => he l a w hI (all_done l (hz l a w hI) hac hr), fun i hi => ?_⟩
    obtain ⟨hd, o, ho, hall⟩ := mem_ready.1 hi
    have := undone_set l i hd
    exact wpOp_mono (fun a' w' h' => ih _ a' w' h' (by omega)) (hs l a w i o hI ho hd hall)

/-- Each operation waits for earlier ones alone, and none is guarded. -/
def plainB (L : List Oper) : Bool := (List.range L.length).all fun j => match L[j]? with | some o => o.guard.isNone && o.after.all (fun e => decide (e.on < j)) | none => true

theorem plain_spec {L : List Oper} (h : plainB L = true) {j : Nat} {o : Oper} (ho : L[j]? = some o) : o.guard = none ∧ ∀ e ∈ o.after, e.on < j := by
  unfold plainB at h
  rw [List.all_eq_true] at h
  obtain ⟨hj, _⟩ := List.getElem?_eq_some_iff.1 ho
  have := h j (List.mem_range.2 hj)
  rw [ho] at this
  simp at this
  refine ⟨this.1, fun e he => ?_⟩
  obtain ⟨k, hk, rfl⟩ := Array.mem_iff_getElem.1 he
  exact this.2 k hk

/-- R of each one, with its number. -/
def each (R : Nat → Oper → Prop) : Nat → List Oper → Prop
  | _, [] => True
  | n, o :: r => R n o ∧ each R (n + 1) r

theorem each_get {R : Nat → Oper → Prop} : ∀ (L : List Oper) (n : Nat), each R n L → ∀ j o, L[j]? = some o → R (n + j) o
  | [], _, _, j, o, h => by simp at h
  | b :: r, n, h, 0, o, ho => by simp at ho; subst ho; exact h.1
  | b :: r, n, h, j + 1, o, ho => by
    have := each_get r (n + 1) h.2 j o (by simpa using ho)
    rwa [show n + 1 + j = n + (j + 1) by omega] at this

/-- THE LAW: what every operation keeps, that may come up, holds behind the region. -/
theorem region_inv {id : Nat} {a : Act} {w : World} {L : List Oper} (I : Array Bool → Act → World → Prop) (hm : P.follows .mixedOrders = true) (hp : plainB L = true)
    (h0 : I (Array.replicate L.length false) a w.drew)
    (hz : ∀ l a w, I l a w → l.size = L.length)
    (hs : each (fun i o => ∀ l a w, I l a w → l.getD i true = false → (∀ e ∈ o.after, Region.binds .any e = true → l.getD e.on false = true) →
      ∀ K : Act → World → Prop, (∀ a' w', I (l.setIfInBounds i true) a' w' → K a' w') → o.wp P a w K Q) 0 L)
    (he : ∀ l a w, I l a w → (∀ i, i < L.length → l.getD i false = true) → Q .normal a w) : (Code.region id L.toArray true).wp P Q a w := by
  refine wp_region_any hm (wpAny_inv I (fun l a w h => by simpa using hz l a w h) (fun l a w i o hI ho hd hall => ?_) (fun l a w hI h => he l a w hI (by simpa using h)) (fun j o ho => (plain_spec hp (by simpa using ho)).2) _ _ _ _ (by simpa using h0) ?_)
  · have ho' : L[i]? = some o := by simpa using ho
    have hg := (plain_spec hp ho').1
    have h := each_get L 0 hs i o ho'
    rw [Nat.zero_add] at h
    unfold wpOp
    rw [ho]
    simp only
    rw [if_pos (by unfold Region.wanted; rw [hg])]
    exact .inl (h l a w hI hd hall _ (fun _ _ h => h))
  · unfold undone
    have := List.length_filter_le (fun b : Bool => !b) (Array.replicate L.toArray.size false).toList
    simp at this ⊢
end Go.Proofs.YtllnamhgnbdkmaaGreatDoor
namespace Go.Proofs.YtllnamhgnbdkmaaGreatDoor
open Go.RowKit Go.Shelf Go.Sort

/-- append([]int{}, ints...): a new row, and nothing else has turned. -/
theorem run_copy0 (w : World) (g ty : Nat) (S : Nat → Prop) (vx : Value) (l2 : List Int) (h : IntsAt w S vx l2) (hlen : l2.length ≤ 1000000) :
    ∃ v' w', (Builtin.append_ #[41, 41] ty #[.slice (some ⟨g, 0, none⟩) 0 0, vx]).run Tryz.prog w = .ok v' w' ∧ IntsAt w' (fun b => w.heap.size ≤ b) v' l2 ∧ Below w.heap.size w w' := by
  obtain ⟨i0, hi, hq0, hq1, hq2⟩ := info_parts info3
  obtain ⟨A, c, rfl, hc, hnil, hj⟩ := h
  by_cases h0 : l2.length = 0
  · obtain rfl : l2 = [] := List.eq_nil_of_length_eq_zero h0
    have hr : (Builtin.append_ #[41, 41] ty #[.slice (some ⟨g, 0, none⟩) 0 0, .slice A ([] : List Int).length c]).run Tryz.prog w = .ok (.slice (some ⟨g, 0, none⟩) 0 0) w := by
      cases A <;> simp [Builtin.append_, run_underlying Tryz.underlying41, sizeOf, typeInfo, hi, Builtin.lenOf, Builtin.firstCells, storeCells, loadCells, loadCellsFrom]
    exact ⟨_, _, hr, ⟨some ⟨g, 0, none⟩, 0, rfl, Nat.le_refl _, (fun h => by cases h), fun h => by simp at h⟩, Below.refl _ _⟩
  · obtain ⟨b, o, rfl, hS, hb, hx⟩ := hj (by omega)
    have hr := run_append_grow (w := w) 41 ty 3 i0 (.int .i64 0) (show Tryz.prog.underlying 41 = _ from Tryz.underlying41) hi hq0 ⟨g, 0, none⟩ 0 0 [] (by simp) (by simp) ⟨b, o, none⟩ l2.length c (l2.map encZ) (by simp [hq1]) (fun j v hv => by
      rw [List.getElem?_map, Option.map_eq_some_iff] at hv
      obtain ⟨x, h1, rfl⟩ := hv
      rw [addr_add]
      exact hx j x h1) (by omega) (by omega) (by rw [Nat.zero_add, nextslicecap_zero (by omega), hq2]; omega)
    refine ⟨_, _, hr, ⟨_, _, by rw [Nat.zero_add], ?_, (fun h => by cases h), fun _ => ⟨_, _, rfl, Nat.le_refl _, by simp, fun j x hx' => ?_⟩⟩, ((Below.refl _ w).drew).alloc (Nat.le_refl _) _⟩
    · have := grownCap_ge w l2.length 0 3
      simpa using this
    · rw [Nat.zero_add]
      refine cellN (heap_alloc_new w.drew _) ?_
      have hj' := (List.getElem?_eq_some_iff.1 hx').1
      simp only [List.append_nil, List.nil_append, List.map_toArray, Array.empty_append]
      rw [Array.getElem?_append_left (by simpa using hj')]
      simp [hx', encZ]

theorem wp_copy0 {w : World} {o : Oper} {a : Act} {K : Act → World → Prop} {Q : Exit → Act → World → Prop} (s x : Operand)
    (ho : o.op = .call { callee := .builtin .append, args := #[s, x], argTypes := #[41, 41] }) (g : Nat) (hs : a.eval s = .slice (some ⟨g, 0, none⟩) 0 0) (S : Nat → Prop) (vx : Value) (hx : a.eval x = vx) (l2 : List Int) (hst : IntsAt w S vx l2) (hlen : l2.length ≤ 1000000)
    (h : ∀ v' w', IntsAt w' (fun b => w.heap.size ≤ b) v' l2 → Below w.heap.size w w' → K (a.put o.dst v') w') : o.wp Tryz.prog a w K Q := by
  obtain ⟨v', w', hr, h1, h2⟩ := run_copy0 w g o.type S vx l2 hst hlen
  unfold Oper.wp execOp
  simp only [ho, resolve, invoke, builtin, Sem.run_bind, Sem.run_pure, Result.andThen_ok, List.map_toArray, List.map_cons, List.map_nil, hs, hx, hr]
  exact h v' w' h1 h2

def FrP (t0 t1 t2 t4 t6 t7 t8 t9 t10 t11 t37 t38 : Value) (PB NB : Nat) (u12 u13 u14 u15 u16 u17 u18 u19 u20 u21 u22 u23 u24 u25 u26 u27 u28 u29 u30 u31 u32 u33 u34 u35 u36 : Value) : Act :=
  { tmps := #[t0, t1, t2, .pointer (some ⟨PB, 0, none⟩), t4, .pointer (some ⟨NB, 0, none⟩), t6, t7, t8, t9, t10, t11, u12, u13, u14, u15, u16, u17, u18, u19, u20, u21, u22, u23, u24, u25, u26, u27, u28, u29, u30, u31, u32, u33, u34, u35, u36, t37, t38], defers := [] }

def opsP : List Oper := [{ dst := some 12, op := Op.fieldAddr 27 (Operand.tmp 3) 0, type := 0, pos := "law.go:42", after := #[], guard := none }, { dst := some 13, op := Op.load 25 (Operand.tmp 12), type := 25, pos := "law.go:42", after := #[{ on := 0, ground := Ground.data }], guard := none }, { dst := some 14, op := Op.fieldAddr 51 (Operand.tmp 5) 0, type := 0, pos := "law.go:42", after := #[], guard := none }, { dst := some 15, op := Op.load 3 (Operand.tmp 14), type := 3, pos := "law.go:42", after := #[{ on := 2, ground := Ground.data }], guard := none }, { dst := some 16, op := Op.buildSlice 41 0 #[], type := 41, pos := "law.go:42", after := #[], guard := none }, { dst := some 17, op := Op.fieldAddr 51 (Operand.tmp 5) 1, type := 0, pos := "law.go:42", after := #[], guard := none }, { dst := some 18, op := Op.load 41 (Operand.tmp 17), type := 41, pos := "law.go:42", after := #[{ on := 5, ground := Ground.data }], guard := none }, { dst := some 19, op := Op.call { callee := Callee.builtin Builtin.append, args := #[Operand.tmp 16, Operand.tmp 18], argTypes := #[41, 41] }, type := 41, pos := "law.go:42", after := #[{ on := 4, ground := Ground.data }, { on := 6, ground := Ground.data }], guard := none }, { dst := some 20, op := Op.buildSlice 41 0 #[], type := 41, pos := "law.go:42", after := #[], guard := none }, { dst := some 21, op := Op.fieldAddr 51 (Operand.tmp 5) 2, type := 0, pos := "law.go:42", after := #[], guard := none }, { dst := some 22, op := Op.load 41 (Operand.tmp 21), type := 41, pos := "law.go:42", after := #[{ on := 9, ground := Ground.data }], guard := none }, { dst := some 23, op := Op.call { callee := Callee.builtin Builtin.append, args := #[Operand.tmp 20, Operand.tmp 22], argTypes := #[41, 41] }, type := 41, pos := "law.go:42", after := #[{ on := 8, ground := Ground.data }, { on := 10, ground := Ground.data }, { on := 7, ground := Ground.chain }], guard := none }, { dst := some 24, op := Op.fieldAddr 51 (Operand.tmp 5) 3, type := 0, pos := "law.go:42", after := #[], guard := none }, { dst := some 25, op := Op.load 9 (Operand.tmp 24), type := 9, pos := "law.go:42", after := #[{ on := 12, ground := Ground.data }], guard := none }, { dst := some 26, op := Op.fieldAddr 51 (Operand.tmp 5) 4, type := 0, pos := "law.go:42", after := #[], guard := none }, { dst := some 27, op := Op.load 45 (Operand.tmp 26), type := 45, pos := "law.go:42", after := #[{ on := 14, ground := Ground.data }], guard := none }, { dst := some 28, op := Op.call { callee := Callee.value (Operand.func 28), args := #[Operand.tmp 27], argTypes := #[45] }, type := 64, pos := "law.go:42", after := #[{ on := 15, ground := Ground.data }, { on := 11, ground := Ground.chain }], guard := none }, { dst := some 29, op := Op.fieldAddr 51 (Operand.tmp 5) 5, type := 0, pos := "law.go:42", after := #[], guard := none }, { dst := some 30, op := Op.load 47 (Operand.tmp 29), type := 47, pos := "law.go:42", after := #[{ on := 17, ground := Ground.data }], guard := none }, { dst := some 31, op := Op.fieldAddr 51 (Operand.tmp 5) 6, type := 0, pos := "law.go:42", after := #[], guard := none }, { dst := some 32, op := Op.load 49 (Operand.tmp 31), type := 49, pos := "law.go:42", after := #[{ on := 19, ground := Ground.data }], guard := none }, { dst := some 33, op := Op.build 83 #[(0, Operand.tmp 15), (1, Operand.tmp 19), (2, Operand.tmp 23), (3, Operand.tmp 25), (4, Operand.tmp 28), (5, Operand.tmp 30), (6, Operand.tmp 32)], type := 83, pos := "law.go:42", after := #[{ on := 3, ground := Ground.data }, { on := 7, ground := Ground.data }, { on := 11, ground := Ground.data }, { on := 13, ground := Ground.data }, { on := 16, ground := Ground.data }, { on := 18, ground := Ground.data }, { on := 20, ground := Ground.data }], guard := none }, { dst := some 34, op := Op.buildSlice 25 1 #[(0, Operand.tmp 33)], type := 25, pos := "law.go:42", after := #[{ on := 21, ground := Ground.data }], guard := none }, { dst := some 35, op := Op.call { callee := Callee.builtin Builtin.append, args := #[Operand.tmp 13, Operand.tmp 34], argTypes := #[25, 25] }, type := 25, pos := "law.go:42", after := #[{ on := 1, ground := Ground.data }, { on := 22, ground := Ground.data }, { on := 16, ground := Ground.chain }], guard := none }, { dst := some 36, op := Op.fieldAddr 27 (Operand.tmp 3) 0, type := 0, pos := "law.go:42", after := #[{ on := 0, ground := Ground.phase }, { on := 1, ground := Ground.phase }, { on := 2, ground := Ground.phase }, { on := 3, ground := Ground.phase }, { on := 4, ground := Ground.phase }, { on := 5, ground := Ground.phase }, { on := 6, ground := Ground.phase }, { on := 7, ground := Ground.phase }, { on := 8, ground := Ground.phase }, { on := 9, ground := Ground.phase }, { on := 10, ground := Ground.phase }, { on := 11, ground := Ground.phase }, { on := 12, ground := Ground.phase }, { on := 13, ground := Ground.phase }, { on := 14, ground := Ground.phase }, { on := 15, ground := Ground.phase }, { on := 16, ground := Ground.phase }, { on := 17, ground := Ground.phase }, { on := 18, ground := Ground.phase }, { on := 19, ground := Ground.phase }, { on := 20, ground := Ground.phase }, { on := 21, ground := Ground.phase }, { on := 22, ground := Ground.phase }, { on := 23, ground := Ground.phase }], guard := none }, { dst := none, op := Op.store 25 (Operand.tmp 36) (Operand.tmp 35), type := 0, pos := "law.go:42", after := #[{ on := 24, ground := Ground.data }, { on := 23, ground := Ground.data }, { on := 23, ground := Ground.chain }, { on := 0, ground := Ground.phase }, { on := 1, ground := Ground.phase }, { on := 2, ground := Ground.phase }, { on := 3, ground := Ground.phase }, { on := 4, ground := Ground.phase }, { on := 5, ground := Ground.phase }, { on := 6, ground := Ground.phase }, { on := 7, ground := Ground.phase }, { on := 8, ground := Ground.phase }, { on := 9, ground := Ground.phase }, { on := 10, ground := Ground.phase }, { on := 11, ground := Ground.phase }, { on := 12, ground := Ground.phase }, { on := 13, ground := Ground.phase }, { on := 14, ground := Ground.phase }, { on := 15, ground := Ground.phase }, { on := 16, ground := Ground.phase }, { on := 17, ground := Ground.phase }, { on := 18, ground := Ground.phase }, { on := 19, ground := Ground.phase }, { on := 20, ground := Ground.phase }, { on := 21, ground := Ground.phase }, { on := 22, ground := Ground.phase }, { on := 23, ground := Ground.phase }], guard := none }]

def C7 (NB : Nat) (l : List Int) (W : World) (u : Value) : Prop := ∃ X x, u = .slice X l.length x ∧ IntsAt W (fun b => NB + 1 ≤ b) (.slice X l.length x) l
def C16 (NB d : Nat) (n : Gn) (W : World) (u : Value) : Prop := ∃ X x, u = .agg #[.int .i64 n.ty.kind, .slice X n.ty.args.length x] ∧ TyAt W (fun b => NB + 1 ≤ b) d (.agg #[.int .i64 n.ty.kind, .slice X n.ty.args.length x]) n.ty
def C21 (NB d : Nat) (n : Gn) (W : World) (u : Value) : Prop := ∃ X Y Z x y z, u = .agg #[.int .i64 n.op, .slice X n.ins.length x, .slice Y n.side.length y, .string ⟨n.text.toArray⟩, .int .i64 n.ty.kind, .slice Z n.ty.args.length z, .int .i64 n.f0, .int .i64 n.f1, .int .i64 n.f2, .int .i64 n.f3, .int .i64 n.e, .int .i64 n.l, .int .i64 n.lt, .bool n.acc] ∧ GnAt W (fun b => NB + 1 ≤ b) d (n.val X Y Z x y z) n
def C22 (NB d : Nat) (n : Gn) (W : World) (u : Value) : Prop := ∃ B X Y Z x y z, u = .slice (some ⟨B, 0, none⟩) 1 1 ∧ W.heap[B]? = some (.cells #[.int .i64 n.op, .slice X n.ins.length x, .slice Y n.side.length y, .string ⟨n.text.toArray⟩, .int .i64 n.ty.kind, .slice Z n.ty.args.length z, .int .i64 n.f0, .int .i64 n.f1, .int .i64 n.f2, .int .i64 n.f3, .int .i64 n.e, .int .i64 n.l, .int .i64 n.lt, .bool n.acc] 83 (0, 0)) ∧ GnAt W (fun b => NB + 1 ≤ b) d (n.val X Y Z x y z) n
def C23 (w : World) (d : Nat) (pre : List Gn) (n : Gn) (W : World) (u : Value) : Prop := ∃ GA gc, u = .slice GA (pre.length + 1) gc ∧ NsO W (w.heap.size + 2) d (.slice GA (pre.length + 1) gc) (pre ++ [n])
theorem C7.below {NB : Nat} {l : List Int} {W W' : World} {u : Value} (h : C7 NB l W u) (hb : Below W.heap.size W W') : C7 NB l W' u := by
  obtain ⟨X, x, e, h⟩ := h
  exact ⟨X, x, e, h.below hb⟩
theorem C16.below {NB d : Nat} {n : Gn} {W W' : World} {u : Value} (h : C16 NB d n W u) (hb : Below W.heap.size W W') : C16 NB d n W' u := by
  obtain ⟨X, x, e, h⟩ := h
  exact ⟨X, x, e, TyAt.move (fun b hb' hl => ⟨hb', fun _ => World.cell?_of_block (hb.block b hl)⟩) _ _ _ h⟩
theorem C21.below {NB d : Nat} {n : Gn} {W W' : World} {u : Value} (h : C21 NB d n W u) (hb : Below W.heap.size W W') : C21 NB d n W' u := by
  obtain ⟨X, Y, Z, x, y, z, e, h⟩ := h
  exact ⟨X, Y, Z, x, y, z, e, h.below hb⟩
theorem C22.below {NB d : Nat} {n : Gn} {W W' : World} {u : Value} (h : C22 NB d n W u) (hb : Below W.heap.size W W') : C22 NB d n W' u := by
  obtain ⟨B, X, Y, Z, x, y, z, e, h1, h⟩ := h
  exact ⟨B, X, Y, Z, x, y, z, e, bl_blk hb h1, h.below hb⟩
theorem C23.below {w : World} {d : Nat} {pre : List Gn} {n : Gn} {W W' : World} {u : Value} (h : C23 w d pre n W u) (hb : Below W.heap.size W W') : C23 w d pre n W' u := by
  obtain ⟨GA, gc, e, h⟩ := h
  exact ⟨GA, gc, e, h.keep hb⟩
theorem NsO.far {w : World} {B d i p : Nat} {u v : Value} {l : List Gn} (h : NsO w B d v l) (hp : p < B) : NsO (w.setCell ⟨p, i, none⟩ u) B d v l := by
  have hg : w.grownBy (w.setCell ⟨p, i, none⟩ u) (some p) := ⟨rfl, rfl, rfl, by simp [World.setCell], fun k hk hne => Below.heap_setCell w ⟨p, i, none⟩ u k (fun e => hne (by rw [e]))⟩
  obtain ⟨xs, ho, hn⟩ := h
  refine ⟨xs, ho.kept hg (.inr fun e => ?_), fun j n hj => ?_⟩
  · have := (ho.lt p e).1
    omega
  · obtain ⟨IA, SA, A, ic, sc, c, hgn, hu⟩ := hn j n hj
    refine ⟨IA, SA, A, ic, sc, c, hgn.move fun b hb hl => ⟨hb, by simpa [World.setCell] using hl, fun o => World.cell?_of_block (Below.heap_setCell w ⟨p, i, none⟩ u b (fun e => ?_))⟩, hu⟩
    have h1 := hb.1
    have e' : b = p := e
    omega

structure FctP (w : World) (d RB PB NB : Nat) (R0 : Obj) (PA : Option Addr) (pc : Nat) (pre : List Gn) (n : Gn) (IA SA A : Option Addr) (ic sc c : Nat) (W1 : World) (l : Array Bool) (W : World) (u12 u13 u14 u15 u16 u17 u18 u19 u20 u21 u22 u23 u24 u25 u26 u27 u28 u29 u30 u31 u32 u33 u34 u35 u36 : Value) : Prop where
  sz : l.size = 26
  f0 : l.getD 0 false = true → u12 = .pointer (some ⟨PB, 0, none⟩)
  f1 : l.getD 1 false = true → u13 = .slice PA pre.length pc
  f2 : l.getD 2 false = true → u14 = .pointer (some ⟨NB, 0, none⟩)
  f3 : l.getD 3 false = true → u15 = .int .i64 n.op
  f5 : l.getD 5 false = true → u17 = .pointer (some ⟨NB, 1, none⟩)
  f6 : l.getD 6 false = true → u18 = .slice IA n.ins.length ic
  f9 : l.getD 9 false = true → u21 = .pointer (some ⟨NB, 2, none⟩)
  f10 : l.getD 10 false = true → u22 = .slice SA n.side.length sc
  f12 : l.getD 12 false = true → u24 = .pointer (some ⟨NB, 3, none⟩)
  f13 : l.getD 13 false = true → u25 = .string ⟨n.text.toArray⟩
  f14 : l.getD 14 false = true → u26 = .pointer (some ⟨NB, 4, none⟩)
  f15 : l.getD 15 false = true → u27 = .agg #[.int .i64 n.ty.kind, .slice A n.ty.args.length c]
  f17 : l.getD 17 false = true → u29 = .pointer (some ⟨NB, 6, none⟩)
  f18 : l.getD 18 false = true → u30 = .agg #[.int .i64 n.f0, .int .i64 n.f1, .int .i64 n.f2, .int .i64 n.f3]
  f19 : l.getD 19 false = true → u31 = .pointer (some ⟨NB, 10, none⟩)
  f20 : l.getD 20 false = true → u32 = .agg #[.int .i64 n.e, .int .i64 n.l, .int .i64 n.lt, .bool n.acc]
  f24 : l.getD 24 false = true → u36 = .pointer (some ⟨PB, 0, none⟩)
  s4 : l.getD 4 false = true → ∃ g, u16 = .slice (some ⟨g, 0, none⟩) 0 0
  s8 : l.getD 8 false = true → ∃ g, u20 = .slice (some ⟨g, 0, none⟩) 0 0
  c7 : l.getD 7 false = true → l.getD 23 false = false → C7 NB n.ins W u19
  c11 : l.getD 11 false = true → l.getD 23 false = false → C7 NB n.side W u23
  c16 : l.getD 16 false = true → l.getD 23 false = false → C16 NB d n W u28
  c21 : l.getD 21 false = true → l.getD 23 false = false → C21 NB d n W u33
  c22 : l.getD 22 false = true → l.getD 23 false = false → C22 NB d n W u34
  c23 : l.getD 23 false = true → C23 w d pre n W u35
  d7 : l.getD 7 false = true → l.getD 4 false = true ∧ l.getD 6 false = true
  d11 : l.getD 11 false = true → l.getD 8 false = true ∧ l.getD 10 false = true
  d16 : l.getD 16 false = true → l.getD 15 false = true
  d21 : l.getD 21 false = true → l.getD 3 false = true ∧ l.getD 7 false = true ∧ l.getD 11 false = true ∧ l.getD 13 false = true ∧ l.getD 16 false = true ∧ l.getD 18 false = true ∧ l.getD 20 false = true
  d22 : l.getD 22 false = true → l.getD 21 false = true
  d23 : l.getD 23 false = true → l.getD 1 false = true ∧ l.getD 22 false = true
  d25 : l.getD 25 false = true → l.getD 23 false = true ∧ l.getD 24 false = true
  base : l.getD 23 false = false → Below W1.heap.size W1 W
  bw : Below w.heap.size w W
  bR : W.heap[RB]? = some R0
  p0 : l.getD 25 false = false → W.heap[PB]? = some (.cells #[.slice PA pre.length pc] 27 (0, 0))
  p1 : l.getD 25 false = true → W.heap[PB]? = some (.cells #[u35] 27 (0, 0))

def InvP (t0 t1 t2 t4 t6 t7 t8 t9 t10 t11 t37 t38 : Value) (w : World) (d RB PB NB : Nat) (R0 : Obj) (PA : Option Addr) (pc : Nat) (pre : List Gn) (n : Gn) (IA SA A : Option Addr) (ic sc c : Nat) (W1 : World) (l : Array Bool) (a : Act) (W : World) : Prop := ∃ u12 u13 u14 u15 u16 u17 u18 u19 u20 u21 u22 u23 u24 u25 u26 u27 u28 u29 u30 u31 u32 u33 u34 u35 u36, a = FrP t0 t1 t2 t4 t6 t7 t8 t9 t10 t11 t37 t38 PB NB u12 u13 u14 u15 u16 u17 u18 u19 u20 u21 u22 u23 u24 u25 u26 u27 u28 u29 u30 u31 u32 u33 u34 u35 u36 ∧ FctP w d RB PB NB R0 PA pc pre n IA SA A ic sc c W1 l W u12 u13 u14 u15 u16 u17 u18 u19 u20 u21 u22 u23 u24 u25 u26 u27 u28 u29 u30 u31 u32 u33 u34 u35 u36

theorem kz {x : Bool} (l : Array Bool) (i j : Nat) (h : (l.setIfInBounds i true).getD j false = x) (hn : i ≠ j := by decide) : l.getD j false = x := (done_set_ne (l := l) (i := i) (j := j) hn).symm.trans h
theorem pNo {l : Array Bool} {i : Nat} (h : l.getD i true = false) : l.getD i false = false := by
  rw [Array.getD_eq_getD_getElem?] at h ⊢
  cases hx : l[i]? with
  | none => rfl
  | some b => rw [hx] at h; simpa using h
theorem pSelf {l : Array Bool} {i : Nat} (h : i < l.size) : (l.setIfInBounds i true).getD i false = true := by
  rw [Array.getD_eq_getD_getElem?, Array.getElem?_setIfInBounds_self]
  simp [h]
theorem pMono {l : Array Bool} {i j : Nat} (h : l.getD j false = true) : (l.setIfInBounds i true).getD j false = true := by
  by_cases e : i = j
  · subst e
    refine pSelf ?_
    rw [Array.getD_eq_getD_getElem?] at h
    cases hx : l[i]? with
    | none => rw [hx] at h; cases h
    | some b => exact (Array.getElem?_eq_some_iff.1 hx).1
  · rw [done_set_ne e]
    exact h
theorem pAbs {l : Array Bool} {i : Nat} {p : Prop} (hn : l.getD i true = false) (h : l.getD i false = true) : p := by
  rw [pNo hn] at h
  cases h
theorem pAbs2 {l : Array Bool} {i : Nat} {p : Prop} (hz : i < l.size) (h : (l.setIfInBounds i true).getD i false = false) : p := by
  rw [pSelf hz] at h
  cases h

set_option maxRecDepth 100000 in
set_option maxHeartbeats 8000000 in
theorem inv_stepsP (t0 t1 t2 t4 t6 t7 t8 t9 t10 t11 t37 t38 : Value) (w : World) (d RB PB NB : Nat) (R0 : Obj) (PA : Option Addr) (pc : Nat) (pre : List Gn) (n : Gn) (IA SA A : Option Addr) (ic sc c : Nat) (S : Nat → Prop) (W1 : World) (Q : Exit → Act → World → Prop)
    (hx : W1.heap[NB]? = some (.cells #[.int .i64 n.op, .slice IA n.ins.length ic, .slice SA n.side.length sc, .string ⟨n.text.toArray⟩, .int .i64 n.ty.kind, .slice A n.ty.args.length c, .int .i64 n.f0, .int .i64 n.f1, .int .i64 n.f2, .int .i64 n.f3, .int .i64 n.e, .int .i64 n.l, .int .i64 n.lt, .bool n.acc] 51 (0, 0))) (hPB : PB = w.heap.size + 1) (hRB : RB = w.heap.size) (hNB : W1.heap.size = NB + 1) (hPN : PB < NB) (hO : NsO W1 (w.heap.size + 2) d (.slice PA pre.length pc) pre) (hOl : ∀ g, (Value.slice PA pre.length pc).ownBlock = some g → g < NB) (hpl : pre.length ≤ 100)
    (HI7 : Hid (∀ W, Below W1.heap.size W1 W → IntsAt W S (.slice IA n.ins.length ic) n.ins)) (HI8 : Hid (∀ W, Below W1.heap.size W1 W → IntsAt W S (.slice SA n.side.length sc) n.side)) (HSM : Hid (SmN n))
    (HTY : Hid (∀ W, Below W1.heap.size W1 W → Calls Tryz.prog 28 #[.agg #[.int .i64 n.ty.kind, .slice A n.ty.args.length c]] W fun e w' => (∃ v', e = .returned v' ∧ TyAt w' (fun b => W.heap.size ≤ b) d v' n.ty) ∧ Below W.heap.size W w')) :
    each (fun i o => ∀ l a W, InvP t0 t1 t2 t4 t6 t7 t8 t9 t10 t11 t37 t38 w d RB PB NB R0 PA pc pre n IA SA A ic sc c W1 l a W → l.getD i true = false → (∀ e ∈ o.after, Region.binds .any e = true → l.getD e.on false = true) →
      ∀ K : Act → World → Prop, (∀ a' w', InvP t0 t1 t2 t4 t6 t7 t8 t9 t10 t11 t37 t38 w d RB PB NB R0 PA pc pre n IA SA A ic sc c W1 (l.setIfInBounds i true) a' w' → K a' w') → o.wp Tryz.prog a W K Q) 0 opsP := by
  obtain ⟨i0, hi, hq0, hq1, hq2⟩ := info_parts infoN
  have hnl : NB < W1.heap.size := by omega
  have HX := Lib.hid hx
  have HPB := Lib.hid hPB
  have HRB := Lib.hid hRB
  have HNB := Lib.hid hNB
  have HO := Lib.hid hO
  have HOL := Lib.hid hOl
  clear hx hPB hRB hNB hO hOl
  unfold opsP
  refine ⟨?_, ?_, ?_, ?_, ?_, ?_, ?_, ?_, ?_, ?_, ?_, ?_, ?_, ?_, ?_, ?_, ?_, ?_, ?_, ?_, ?_, ?_, ?_, ?_, ?_, ?_, trivial⟩
  · intro l a W hI hn hall K hK
    obtain ⟨u12, u13, u14, u15, u16, u17, u18, u19, u20, u21, u22, u23, u24, u25, u26, u27, u28, u29, u30, u31, u32, u33, u34, u35, u36, rfl, F⟩ := hI
    have HF := Lib.hid F
    have HNN := Lib.hid hn
    clear hn hall F
    unfold FrP
    go_simp
    have F := HF.out
    have hn := HNN.out
    exact hK _ _ ⟨_, _, _, _, _, _, _, _, _, _, _, _, _, _, _, _, _, _, _, _, _, _, _, _, _, rfl, ⟨by rw [Array.size_setIfInBounds]; exact F.sz, fun _ => rfl, fun h => F.f1 (kz l 0 1 h), fun h => F.f2 (kz l 0 2 h), fun h => F.f3 (kz l 0 3 h), fun h => F.f5 (kz l 0 5 h), fun h => F.f6 (kz l 0 6 h), fun h => F.f9 (kz l 0 9 h), fun h => F.f10 (kz l 0 10 h), fun h => F.f12 (kz l 0 12 h), fun h => F.f13 (kz l 0 13 h), fun h => F.f14 (kz l 0 14 h), fun h => F.f15 (kz l 0 15 h), fun h => F.f17 (kz l 0 17 h), fun h => F.f18 (kz l 0 18 h), fun h => F.f19 (kz l 0 19 h), fun h => F.f20 (kz l 0 20 h), fun h => F.f24 (kz l 0 24 h), fun h => F.s4 (kz l 0 4 h), fun h => F.s8 (kz l 0 8 h), fun h h2 => F.c7 (kz l 0 7 h) (kz l 0 23 h2), fun h h2 => F.c11 (kz l 0 11 h) (kz l 0 23 h2), fun h h2 => F.c16 (kz l 0 16 h) (kz l 0 23 h2), fun h h2 => F.c21 (kz l 0 21 h) (kz l 0 23 h2), fun h h2 => F.c22 (kz l 0 22 h) (kz l 0 23 h2), fun h => F.c23 (kz l 0 23 h), fun h => have ⟨x0, x1⟩ := F.d7 (kz l 0 7 h); ⟨pMono x0, pMono x1⟩, fun h => have ⟨x0, x1⟩ := F.d11 (kz l 0 11 h); ⟨pMono x0, pMono x1⟩, fun h => pMono (F.d16 (kz l 0 16 h)), fun h => have ⟨x0, x1, x2, x3, x4, x5, x6⟩ := F.d21 (kz l 0 21 h); ⟨pMono x0, pMono x1, pMono x2, pMono x3, pMono x4, pMono x5, pMono x6⟩, fun h => pMono (F.d22 (kz l 0 22 h)), fun h => have ⟨x0, x1⟩ := F.d23 (kz l 0 23 h); ⟨pMono x0, pMono x1⟩, fun h => have ⟨x0, x1⟩ := F.d25 (kz l 0 25 h); ⟨pMono x0, pMono x1⟩, fun h => F.base (kz l 0 23 h), F.bw, F.bR, fun h => F.p0 (kz l 0 25 h), fun h => F.p1 (kz l 0 25 h)⟩⟩
  · intro l a W hI hn hall K hK
    obtain ⟨u12, u13, u14, u15, u16, u17, u18, u19, u20, u21, u22, u23, u24, u25, u26, u27, u28, u29, u30, u31, u32, u33, u34, u35, u36, rfl, F⟩ := hI
    have HF := Lib.hid F
    have HNN := Lib.hid hn
    obtain rfl := F.f0 (hall { on := 0, ground := Ground.data } (by simp) rfl)
    have h23 : l.getD 23 false = false := by
      cases h : l.getD 23 false with
      | false => rfl
      | true => exact pAbs hn ((F.d23 h).1)
    have h25 : l.getD 25 false = false := by
      cases h : l.getD 25 false with
      | false => rfl
      | true => rw [(F.d25 h).1] at h23; cases h23
    have c0 := cellN (i := 0) (F.p0 h25) rfl
    clear hn hall F h23 h25
    unfold FrP
    go_simp
    have F := HF.out
    have hn := HNN.out
    exact hK _ _ ⟨_, _, _, _, _, _, _, _, _, _, _, _, _, _, _, _, _, _, _, _, _, _, _, _, _, rfl, ⟨by rw [Array.size_setIfInBounds]; exact F.sz, fun h => F.f0 (kz l 1 0 h), fun _ => rfl, fun h => F.f2 (kz l 1 2 h), fun h => F.f3 (kz l 1 3 h), fun h => F.f5 (kz l 1 5 h), fun h => F.f6 (kz l 1 6 h), fun h => F.f9 (kz l 1 9 h), fun h => F.f10 (kz l 1 10 h), fun h => F.f12 (kz l 1 12 h), fun h => F.f13 (kz l 1 13 h), fun h => F.f14 (kz l 1 14 h), fun h => F.f15 (kz l 1 15 h), fun h => F.f17 (kz l 1 17 h), fun h => F.f18 (kz l 1 18 h), fun h => F.f19 (kz l 1 19 h), fun h => F.f20 (kz l 1 20 h), fun h => F.f24 (kz l 1 24 h), fun h => F.s4 (kz l 1 4 h), fun h => F.s8 (kz l 1 8 h), fun h h2 => F.c7 (kz l 1 7 h) (kz l 1 23 h2), fun h h2 => F.c11 (kz l 1 11 h) (kz l 1 23 h2), fun h h2 => F.c16 (kz l 1 16 h) (kz l 1 23 h2), fun h h2 => F.c21 (kz l 1 21 h) (kz l 1 23 h2), fun h h2 => F.c22 (kz l 1 22 h) (kz l 1 23 h2), fun h => F.c23 (kz l 1 23 h), fun h => have ⟨x0, x1⟩ := F.d7 (kz l 1 7 h); ⟨pMono x0, pMono x1⟩, fun h => have ⟨x0, x1⟩ := F.d11 (kz l 1 11 h); ⟨pMono x0, pMono x1⟩, fun h => pMono (F.d16 (kz l 1 16 h)), fun h => have ⟨x0, x1, x2, x3, x4, x5, x6⟩ := F.d21 (kz l 1 21 h); ⟨pMono x0, pMono x1, pMono x2, pMono x3, pMono x4, pMono x5, pMono x6⟩, fun h => pMono (F.d22 (kz l 1 22 h)), fun h => have ⟨x0, x1⟩ := F.d23 (kz l 1 23 h); ⟨pMono x0, pMono x1⟩, fun h => have ⟨x0, x1⟩ := F.d25 (kz l 1 25 h); ⟨pMono x0, pMono x1⟩, fun h => F.base (kz l 1 23 h), F.bw, F.bR, fun h => F.p0 (kz l 1 25 h), fun h => F.p1 (kz l 1 25 h)⟩⟩
  · intro l a W hI hn hall K hK
    obtain ⟨u12, u13, u14, u15, u16, u17, u18, u19, u20, u21, u22, u23, u24, u25, u26, u27, u28, u29, u30, u31, u32, u33, u34, u35, u36, rfl, F⟩ := hI
    have HF := Lib.hid F
    have HNN := Lib.hid hn
    clear hn hall F
    unfold FrP
    go_simp
    have F := HF.out
    have hn := HNN.out
    exact hK _ _ ⟨_, _, _, _, _, _, _, _, _, _, _, _, _, _, _, _, _, _, _, _, _, _, _, _, _, rfl, ⟨by rw [Array.size_setIfInBounds]; exact F.sz, fun h => F.f0 (kz l 2 0 h), fun h => F.f1 (kz l 2 1 h), fun _ => rfl, fun h => F.f3 (kz l 2 3 h), fun h => F.f5 (kz l 2 5 h), fun h => F.f6 (kz l 2 6 h), fun h => F.f9 (kz l 2 9 h), fun h => F.f10 (kz l 2 10 h), fun h => F.f12 (kz l 2 12 h), fun h => F.f13 (kz l 2 13 h), fun h => F.f14 (kz l 2 14 h), fun h => F.f15 (kz l 2 15 h), fun h => F.f17 (kz l 2 17 h), fun h => F.f18 (kz l 2 18 h), fun h => F.f19 (kz l 2 19 h), fun h => F.f20 (kz l 2 20 h), fun h => F.f24 (kz l 2 24 h), fun h => F.s4 (kz l 2 4 h), fun h => F.s8 (kz l 2 8 h), fun h h2 => F.c7 (kz l 2 7 h) (kz l 2 23 h2), fun h h2 => F.c11 (kz l 2 11 h) (kz l 2 23 h2), fun h h2 => F.c16 (kz l 2 16 h) (kz l 2 23 h2), fun h h2 => F.c21 (kz l 2 21 h) (kz l 2 23 h2), fun h h2 => F.c22 (kz l 2 22 h) (kz l 2 23 h2), fun h => F.c23 (kz l 2 23 h), fun h => have ⟨x0, x1⟩ := F.d7 (kz l 2 7 h); ⟨pMono x0, pMono x1⟩, fun h => have ⟨x0, x1⟩ := F.d11 (kz l 2 11 h); ⟨pMono x0, pMono x1⟩, fun h => pMono (F.d16 (kz l 2 16 h)), fun h => have ⟨x0, x1, x2, x3, x4, x5, x6⟩ := F.d21 (kz l 2 21 h); ⟨pMono x0, pMono x1, pMono x2, pMono x3, pMono x4, pMono x5, pMono x6⟩, fun h => pMono (F.d22 (kz l 2 22 h)), fun h => have ⟨x0, x1⟩ := F.d23 (kz l 2 23 h); ⟨pMono x0, pMono x1⟩, fun h => have ⟨x0, x1⟩ := F.d25 (kz l 2 25 h); ⟨pMono x0, pMono x1⟩, fun h => F.base (kz l 2 23 h), F.bw, F.bR, fun h => F.p0 (kz l 2 25 h), fun h => F.p1 (kz l 2 25 h)⟩⟩
  · intro l a W hI hn hall K hK
    obtain ⟨u12, u13, u14, u15, u16, u17, u18, u19, u20, u21, u22, u23, u24, u25, u26, u27, u28, u29, u30, u31, u32, u33, u34, u35, u36, rfl, F⟩ := hI
    have HF := Lib.hid F
    have HNN := Lib.hid hn
    obtain rfl := F.f2 (hall { on := 2, ground := Ground.data } (by simp) rfl)
    have h23 : l.getD 23 false = false := by
      cases h : l.getD 23 false with
      | false => rfl
      | true => exact pAbs hn ((F.d21 (F.d22 (F.d23 h).2)).1)
    have hblk := bl_blk (F.base h23) HX.out
    have c0 := cellN (i := 0) hblk rfl
    clear hn hall F h23 hblk
    unfold FrP
    go_simp
    have F := HF.out
    have hn := HNN.out
    exact hK _ _ ⟨_, _, _, _, _, _, _, _, _, _, _, _, _, _, _, _, _, _, _, _, _, _, _, _, _, rfl, ⟨by rw [Array.size_setIfInBounds]; exact F.sz, fun h => F.f0 (kz l 3 0 h), fun h => F.f1 (kz l 3 1 h), fun h => F.f2 (kz l 3 2 h), fun _ => rfl, fun h => F.f5 (kz l 3 5 h), fun h => F.f6 (kz l 3 6 h), fun h => F.f9 (kz l 3 9 h), fun h => F.f10 (kz l 3 10 h), fun h => F.f12 (kz l 3 12 h), fun h => F.f13 (kz l 3 13 h), fun h => F.f14 (kz l 3 14 h), fun h => F.f15 (kz l 3 15 h), fun h => F.f17 (kz l 3 17 h), fun h => F.f18 (kz l 3 18 h), fun h => F.f19 (kz l 3 19 h), fun h => F.f20 (kz l 3 20 h), fun h => F.f24 (kz l 3 24 h), fun h => F.s4 (kz l 3 4 h), fun h => F.s8 (kz l 3 8 h), fun h h2 => F.c7 (kz l 3 7 h) (kz l 3 23 h2), fun h h2 => F.c11 (kz l 3 11 h) (kz l 3 23 h2), fun h h2 => F.c16 (kz l 3 16 h) (kz l 3 23 h2), fun h h2 => F.c21 (kz l 3 21 h) (kz l 3 23 h2), fun h h2 => F.c22 (kz l 3 22 h) (kz l 3 23 h2), fun h => F.c23 (kz l 3 23 h), fun h => have ⟨x0, x1⟩ := F.d7 (kz l 3 7 h); ⟨pMono x0, pMono x1⟩, fun h => have ⟨x0, x1⟩ := F.d11 (kz l 3 11 h); ⟨pMono x0, pMono x1⟩, fun h => pMono (F.d16 (kz l 3 16 h)), fun h => have ⟨x0, x1, x2, x3, x4, x5, x6⟩ := F.d21 (kz l 3 21 h); ⟨pMono x0, pMono x1, pMono x2, pMono x3, pMono x4, pMono x5, pMono x6⟩, fun h => pMono (F.d22 (kz l 3 22 h)), fun h => have ⟨x0, x1⟩ := F.d23 (kz l 3 23 h); ⟨pMono x0, pMono x1⟩, fun h => have ⟨x0, x1⟩ := F.d25 (kz l 3 25 h); ⟨pMono x0, pMono x1⟩, fun h => F.base (kz l 3 23 h), F.bw, F.bR, fun h => F.p0 (kz l 3 25 h), fun h => F.p1 (kz l 3 25 h)⟩⟩
  · intro l a W hI hn hall K hK
    obtain ⟨u12, u13, u14, u15, u16, u17, u18, u19, u20, u21, u22, u23, u24, u25, u26, u27, u28, u29, u30, u31, u32, u33, u34, u35, u36, rfl, F⟩ := hI
    have HF := Lib.hid F
    have HNN := Lib.hid hn
    clear hn hall F
    unfold FrP
    go_simp
    have F := HF.out
    have hn := HNN.out
    have hb : Below W.heap.size W (W.alloc (.cells #[] 3)) := bl_al (Below.refl _ _) _
    exact hK _ _ ⟨_, _, _, _, _, _, _, _, _, _, _, _, _, _, _, _, _, _, _, _, _, _, _, _, _, rfl, ⟨by rw [Array.size_setIfInBounds]; exact F.sz, fun h => F.f0 (kz l 4 0 h), fun h => F.f1 (kz l 4 1 h), fun h => F.f2 (kz l 4 2 h), fun h => F.f3 (kz l 4 3 h), fun h => F.f5 (kz l 4 5 h), fun h => F.f6 (kz l 4 6 h), fun h => F.f9 (kz l 4 9 h), fun h => F.f10 (kz l 4 10 h), fun h => F.f12 (kz l 4 12 h), fun h => F.f13 (kz l 4 13 h), fun h => F.f14 (kz l 4 14 h), fun h => F.f15 (kz l 4 15 h), fun h => F.f17 (kz l 4 17 h), fun h => F.f18 (kz l 4 18 h), fun h => F.f19 (kz l 4 19 h), fun h => F.f20 (kz l 4 20 h), fun h => F.f24 (kz l 4 24 h), fun _ => ⟨_, rfl⟩, fun h => F.s8 (kz l 4 8 h), fun h h2 => (F.c7 (kz l 4 7 h) (kz l 4 23 h2)).below hb, fun h h2 => (F.c11 (kz l 4 11 h) (kz l 4 23 h2)).below hb, fun h h2 => (F.c16 (kz l 4 16 h) (kz l 4 23 h2)).below hb, fun h h2 => (F.c21 (kz l 4 21 h) (kz l 4 23 h2)).below hb, fun h h2 => (F.c22 (kz l 4 22 h) (kz l 4 23 h2)).below hb, fun h => (F.c23 (kz l 4 23 h)).below hb, fun h => have ⟨x0, x1⟩ := F.d7 (kz l 4 7 h); ⟨pMono x0, pMono x1⟩, fun h => have ⟨x0, x1⟩ := F.d11 (kz l 4 11 h); ⟨pMono x0, pMono x1⟩, fun h => pMono (F.d16 (kz l 4 16 h)), fun h => have ⟨x0, x1, x2, x3, x4, x5, x6⟩ := F.d21 (kz l 4 21 h); ⟨pMono x0, pMono x1, pMono x2, pMono x3, pMono x4, pMono x5, pMono x6⟩, fun h => pMono (F.d22 (kz l 4 22 h)), fun h => have ⟨x0, x1⟩ := F.d23 (kz l 4 23 h); ⟨pMono x0, pMono x1⟩, fun h => have ⟨x0, x1⟩ := F.d25 (kz l 4 25 h); ⟨pMono x0, pMono x1⟩, fun h => bl_tr (F.base (kz l 4 23 h)) hb, F.bw.trans (hb.mono F.bw.size), bl_blk hb F.bR, fun h => bl_blk hb (F.p0 (kz l 4 25 h)), fun h => bl_blk hb (F.p1 (kz l 4 25 h))⟩⟩
  · intro l a W hI hn hall K hK
    obtain ⟨u12, u13, u14, u15, u16, u17, u18, u19, u20, u21, u22, u23, u24, u25, u26, u27, u28, u29, u30, u31, u32, u33, u34, u35, u36, rfl, F⟩ := hI
    have HF := Lib.hid F
    have HNN := Lib.hid hn
    clear hn hall F
    unfold FrP
    go_simp
    have F := HF.out
    have hn := HNN.out
    exact hK _ _ ⟨_, _, _, _, _, _, _, _, _, _, _, _, _, _, _, _, _, _, _, _, _, _, _, _, _, rfl, ⟨by rw [Array.size_setIfInBounds]; exact F.sz, fun h => F.f0 (kz l 5 0 h), fun h => F.f1 (kz l 5 1 h), fun h => F.f2 (kz l 5 2 h), fun h => F.f3 (kz l 5 3 h), fun _ => rfl, fun h => F.f6 (kz l 5 6 h), fun h => F.f9 (kz l 5 9 h), fun h => F.f10 (kz l 5 10 h), fun h => F.f12 (kz l 5 12 h), fun h => F.f13 (kz l 5 13 h), fun h => F.f14 (kz l 5 14 h), fun h => F.f15 (kz l 5 15 h), fun h => F.f17 (kz l 5 17 h), fun h => F.f18 (kz l 5 18 h), fun h => F.f19 (kz l 5 19 h), fun h => F.f20 (kz l 5 20 h), fun h => F.f24 (kz l 5 24 h), fun h => F.s4 (kz l 5 4 h), fun h => F.s8 (kz l 5 8 h), fun h h2 => F.c7 (kz l 5 7 h) (kz l 5 23 h2), fun h h2 => F.c11 (kz l 5 11 h) (kz l 5 23 h2), fun h h2 => F.c16 (kz l 5 16 h) (kz l 5 23 h2), fun h h2 => F.c21 (kz l 5 21 h) (kz l 5 23 h2), fun h h2 => F.c22 (kz l 5 22 h) (kz l 5 23 h2), fun h => F.c23 (kz l 5 23 h), fun h => have ⟨x0, x1⟩ := F.d7 (kz l 5 7 h); ⟨pMono x0, pMono x1⟩, fun h => have ⟨x0, x1⟩ := F.d11 (kz l 5 11 h); ⟨pMono x0, pMono x1⟩, fun h => pMono (F.d16 (kz l 5 16 h)), fun h => have ⟨x0, x1, x2, x3, x4, x5, x6⟩ := F.d21 (kz l 5 21 h); ⟨pMono x0, pMono x1, pMono x2, pMono x3, pMono x4, pMono x5, pMono x6⟩, fun h => pMono (F.d22 (kz l 5 22 h)), fun h => have ⟨x0, x1⟩ := F.d23 (kz l 5 23 h); ⟨pMono x0, pMono x1⟩, fun h => have ⟨x0, x1⟩ := F.d25 (kz l 5 25 h); ⟨pMono x0, pMono x1⟩, fun h => F.base (kz l 5 23 h), F.bw, F.bR, fun h => F.p0 (kz l 5 25 h), fun h => F.p1 (kz l 5 25 h)⟩⟩
  · intro l a W hI hn hall K hK
    obtain ⟨u12, u13, u14, u15, u16, u17, u18, u19, u20, u21, u22, u23, u24, u25, u26, u27, u28, u29, u30, u31, u32, u33, u34, u35, u36, rfl, F⟩ := hI
    have HF := Lib.hid F
    have HNN := Lib.hid hn
    obtain rfl := F.f5 (hall { on := 5, ground := Ground.data } (by simp) rfl)
    have h23 : l.getD 23 false = false := by
      cases h : l.getD 23 false with
      | false => rfl
      | true => exact pAbs hn ((F.d7 (F.d21 (F.d22 (F.d23 h).2)).2.1).2)
    have hblk := bl_blk (F.base h23) HX.out
    have c1 := cellN (i := 1) hblk rfl
    clear hn hall F h23 hblk
    unfold FrP
    go_simp
    have F := HF.out
    have hn := HNN.out
    exact hK _ _ ⟨_, _, _, _, _, _, _, _, _, _, _, _, _, _, _, _, _, _, _, _, _, _, _, _, _, rfl, ⟨by rw [Array.size_setIfInBounds]; exact F.sz, fun h => F.f0 (kz l 6 0 h), fun h => F.f1 (kz l 6 1 h), fun h => F.f2 (kz l 6 2 h), fun h => F.f3 (kz l 6 3 h), fun h => F.f5 (kz l 6 5 h), fun _ => rfl, fun h => F.f9 (kz l 6 9 h), fun h => F.f10 (kz l 6 10 h), fun h => F.f12 (kz l 6 12 h), fun h => F.f13 (kz l 6 13 h), fun h => F.f14 (kz l 6 14 h), fun h => F.f15 (kz l 6 15 h), fun h => F.f17 (kz l 6 17 h), fun h => F.f18 (kz l 6 18 h), fun h => F.f19 (kz l 6 19 h), fun h => F.f20 (kz l 6 20 h), fun h => F.f24 (kz l 6 24 h), fun h => F.s4 (kz l 6 4 h), fun h => F.s8 (kz l 6 8 h), fun h h2 => F.c7 (kz l 6 7 h) (kz l 6 23 h2), fun h h2 => F.c11 (kz l 6 11 h) (kz l 6 23 h2), fun h h2 => F.c16 (kz l 6 16 h) (kz l 6 23 h2), fun h h2 => F.c21 (kz l 6 21 h) (kz l 6 23 h2), fun h h2 => F.c22 (kz l 6 22 h) (kz l 6 23 h2), fun h => F.c23 (kz l 6 23 h), fun h => have ⟨x0, x1⟩ := F.d7 (kz l 6 7 h); ⟨pMono x0, pMono x1⟩, fun h => have ⟨x0, x1⟩ := F.d11 (kz l 6 11 h); ⟨pMono x0, pMono x1⟩, fun h => pMono (F.d16 (kz l 6 16 h)), fun h => have ⟨x0, x1, x2, x3, x4, x5, x6⟩ := F.d21 (kz l 6 21 h); ⟨pMono x0, pMono x1, pMono x2, pMono x3, pMono x4, pMono x5, pMono x6⟩, fun h => pMono (F.d22 (kz l 6 22 h)), fun h => have ⟨x0, x1⟩ := F.d23 (kz l 6 23 h); ⟨pMono x0, pMono x1⟩, fun h => have ⟨x0, x1⟩ := F.d25 (kz l 6 25 h); ⟨pMono x0, pMono x1⟩, fun h => F.base (kz l 6 23 h), F.bw, F.bR, fun h => F.p0 (kz l 6 25 h), fun h => F.p1 (kz l 6 25 h)⟩⟩
  · intro l a W hI hn hall K hK
    obtain ⟨u12, u13, u14, u15, u16, u17, u18, u19, u20, u21, u22, u23, u24, u25, u26, u27, u28, u29, u30, u31, u32, u33, u34, u35, u36, rfl, F⟩ := hI
    have HF := Lib.hid F
    have HNN := Lib.hid hn
    have hd4 := hall { on := 4, ground := Ground.data } (by simp) rfl
    have hd6 := hall { on := 6, ground := Ground.data } (by simp) rfl
    obtain ⟨g, rfl⟩ := F.s4 hd4
    obtain rfl := F.f6 hd6
    have h23 : l.getD 23 false = false := by
      cases h : l.getD 23 false with
      | false => rfl
      | true => exact pAbs hn ((F.d21 (F.d22 (F.d23 h).2)).2.1)
    have hbs := F.base h23
    refine wp_copy0 _ _ rfl g rfl S _ rfl n.ins (HI7.out _ hbs) (by have := HSM.out.ins; omega) ?_
    intro v' w' hi' hb
    obtain ⟨X, x, rfl⟩ := hi'.form
    have hnew : C7 NB n.ins w' (.slice X n.ins.length x) := ⟨X, x, rfl, hi'.move fun b hb' hl => ⟨by have := hbs.size; have := HNB.out; omega, hl, fun _ => rfl⟩⟩
    have F := HF.out
    have hn := HNN.out
    exact hK _ _ ⟨_, _, _, _, _, _, _, _, _, _, _, _, _, _, _, _, _, _, _, _, _, _, _, _, _, rfl, ⟨by rw [Array.size_setIfInBounds]; exact F.sz, fun h => F.f0 (kz l 7 0 h), fun h => F.f1 (kz l 7 1 h), fun h => F.f2 (kz l 7 2 h), fun h => F.f3 (kz l 7 3 h), fun h => F.f5 (kz l 7 5 h), fun h => F.f6 (kz l 7 6 h), fun h => F.f9 (kz l 7 9 h), fun h => F.f10 (kz l 7 10 h), fun h => F.f12 (kz l 7 12 h), fun h => F.f13 (kz l 7 13 h), fun h => F.f14 (kz l 7 14 h), fun h => F.f15 (kz l 7 15 h), fun h => F.f17 (kz l 7 17 h), fun h => F.f18 (kz l 7 18 h), fun h => F.f19 (kz l 7 19 h), fun h => F.f20 (kz l 7 20 h), fun h => F.f24 (kz l 7 24 h), fun h => F.s4 (kz l 7 4 h), fun h => F.s8 (kz l 7 8 h), fun _ _ => hnew, fun h h2 => (F.c11 (kz l 7 11 h) (kz l 7 23 h2)).below hb, fun h h2 => (F.c16 (kz l 7 16 h) (kz l 7 23 h2)).below hb, fun h h2 => (F.c21 (kz l 7 21 h) (kz l 7 23 h2)).below hb, fun h h2 => (F.c22 (kz l 7 22 h) (kz l 7 23 h2)).below hb, fun h => (F.c23 (kz l 7 23 h)).below hb, fun _ => ⟨pMono hd4, pMono hd6⟩, fun h => have ⟨x0, x1⟩ := F.d11 (kz l 7 11 h); ⟨pMono x0, pMono x1⟩, fun h => pMono (F.d16 (kz l 7 16 h)), fun h => have ⟨x0, x1, x2, x3, x4, x5, x6⟩ := F.d21 (kz l 7 21 h); ⟨pMono x0, pMono x1, pMono x2, pMono x3, pMono x4, pMono x5, pMono x6⟩, fun h => pMono (F.d22 (kz l 7 22 h)), fun h => have ⟨x0, x1⟩ := F.d23 (kz l 7 23 h); ⟨pMono x0, pMono x1⟩, fun h => have ⟨x0, x1⟩ := F.d25 (kz l 7 25 h); ⟨pMono x0, pMono x1⟩, fun h => bl_tr (F.base (kz l 7 23 h)) hb, F.bw.trans (hb.mono F.bw.size), bl_blk hb F.bR, fun h => bl_blk hb (F.p0 (kz l 7 25 h)), fun h => bl_blk hb (F.p1 (kz l 7 25 h))⟩⟩
  · intro l a W hI hn hall K hK
    obtain ⟨u12, u13, u14, u15, u16, u17, u18, u19, u20, u21, u22, u23, u24, u25, u26, u27, u28, u29, u30, u31, u32, u33, u34, u35, u36, rfl, F⟩ := hI
    have HF := Lib.hid F
    have HNN := Lib.hid hn
    clear hn hall F
    unfold FrP
    go_simp
    have F := HF.out
    have hn := HNN.out
    have hb : Below W.heap.size W (W.alloc (.cells #[] 3)) := bl_al (Below.refl _ _) _
    exact hK _ _ ⟨_, _, _, _, _, _, _, _, _, _, _, _, _, _, _, _, _, _, _, _, _, _, _, _, _, rfl, ⟨by rw [Array.size_setIfInBounds]; exact F.sz, fun h => F.f0 (kz l 8 0 h), fun h => F.f1 (kz l 8 1 h), fun h => F.f2 (kz l 8 2 h), fun h => F.f3 (kz l 8 3 h), fun h => F.f5 (kz l 8 5 h), fun h => F.f6 (kz l 8 6 h), fun h => F.f9 (kz l 8 9 h), fun h => F.f10 (kz l 8 10 h), fun h => F.f12 (kz l 8 12 h), fun h => F.f13 (kz l 8 13 h), fun h => F.f14 (kz l 8 14 h), fun h => F.f15 (kz l 8 15 h), fun h => F.f17 (kz l 8 17 h), fun h => F.f18 (kz l 8 18 h), fun h => F.f19 (kz l 8 19 h), fun h => F.f20 (kz l 8 20 h), fun h => F.f24 (kz l 8 24 h), fun h => F.s4 (kz l 8 4 h), fun _ => ⟨_, rfl⟩, fun h h2 => (F.c7 (kz l 8 7 h) (kz l 8 23 h2)).below hb, fun h h2 => (F.c11 (kz l 8 11 h) (kz l 8 23 h2)).below hb, fun h h2 => (F.c16 (kz l 8 16 h) (kz l 8 23 h2)).below hb, fun h h2 => (F.c21 (kz l 8 21 h) (kz l 8 23 h2)).below hb, fun h h2 => (F.c22 (kz l 8 22 h) (kz l 8 23 h2)).below hb, fun h => (F.c23 (kz l 8 23 h)).below hb, fun h => have ⟨x0, x1⟩ := F.d7 (kz l 8 7 h); ⟨pMono x0, pMono x1⟩, fun h => have ⟨x0, x1⟩ := F.d11 (kz l 8 11 h); ⟨pMono x0, pMono x1⟩, fun h => pMono (F.d16 (kz l 8 16 h)), fun h => have ⟨x0, x1, x2, x3, x4, x5, x6⟩ := F.d21 (kz l 8 21 h); ⟨pMono x0, pMono x1, pMono x2, pMono x3, pMono x4, pMono x5, pMono x6⟩, fun h => pMono (F.d22 (kz l 8 22 h)), fun h => have ⟨x0, x1⟩ := F.d23 (kz l 8 23 h); ⟨pMono x0, pMono x1⟩, fun h => have ⟨x0, x1⟩ := F.d25 (kz l 8 25 h); ⟨pMono x0, pMono x1⟩, fun h => bl_tr (F.base (kz l 8 23 h)) hb, F.bw.trans (hb.mono F.bw.size), bl_blk hb F.bR, fun h => bl_blk hb (F.p0 (kz l 8 25 h)), fun h => bl_blk hb (F.p1 (kz l 8 25 h))⟩⟩
  · intro l a W hI hn hall K hK
    obtain ⟨u12, u13, u14, u15, u16, u17, u18, u19, u20, u21, u22, u23, u24, u25, u26, u27, u28, u29, u30, u31, u32, u33, u34, u35, u36, rfl, F⟩ := hI
    have HF := Lib.hid F
    have HNN := Lib.hid hn
    clear hn hall F
    unfold FrP
    go_simp
    have F := HF.out
    have hn := HNN.out
    exact hK _ _ ⟨_, _, _, _, _, _, _, _, _, _, _, _, _, _, _, _, _, _, _, _, _, _, _, _, _, rfl, ⟨by rw [Array.size_setIfInBounds]; exact F.sz, fun h => F.f0 (kz l 9 0 h), fun h => F.f1 (kz l 9 1 h), fun h => F.f2 (kz l 9 2 h), fun h => F.f3 (kz l 9 3 h), fun h => F.f5 (kz l 9 5 h), fun h => F.f6 (kz l 9 6 h), fun _ => rfl, fun h => F.f10 (kz l 9 10 h), fun h => F.f12 (kz l 9 12 h), fun h => F.f13 (kz l 9 13 h), fun h => F.f14 (kz l 9 14 h), fun h => F.f15 (kz l 9 15 h), fun h => F.f17 (kz l 9 17 h), fun h => F.f18 (kz l 9 18 h), fun h => F.f19 (kz l 9 19 h), fun h => F.f20 (kz l 9 20 h), fun h => F.f24 (kz l 9 24 h), fun h => F.s4 (kz l 9 4 h), fun h => F.s8 (kz l 9 8 h), fun h h2 => F.c7 (kz l 9 7 h) (kz l 9 23 h2), fun h h2 => F.c11 (kz l 9 11 h) (kz l 9 23 h2), fun h h2 => F.c16 (kz l 9 16 h) (kz l 9 23 h2), fun h h2 => F.c21 (kz l 9 21 h) (kz l 9 23 h2), fun h h2 => F.c22 (kz l 9 22 h) (kz l 9 23 h2), fun h => F.c23 (kz l 9 23 h), fun h => have ⟨x0, x1⟩ := F.d7 (kz l 9 7 h); ⟨pMono x0, pMono x1⟩, fun h => have ⟨x0, x1⟩ := F.d11 (kz l 9 11 h); ⟨pMono x0, pMono x1⟩, fun h => pMono (F.d16 (kz l 9 16 h)), fun h => have ⟨x0, x1, x2, x3, x4, x5, x6⟩ := F.d21 (kz l 9 21 h); ⟨pMono x0, pMono x1, pMono x2, pMono x3, pMono x4, pMono x5, pMono x6⟩, fun h => pMono (F.d22 (kz l 9 22 h)), fun h => have ⟨x0, x1⟩ := F.d23 (kz l 9 23 h); ⟨pMono x0, pMono x1⟩, fun h => have ⟨x0, x1⟩ := F.d25 (kz l 9 25 h); ⟨pMono x0, pMono x1⟩, fun h => F.base (kz l 9 23 h), F.bw, F.bR, fun h => F.p0 (kz l 9 25 h), fun h => F.p1 (kz l 9 25 h)⟩⟩
  · intro l a W hI hn hall K hK
    obtain ⟨u12, u13, u14, u15, u16, u17, u18, u19, u20, u21, u22, u23, u24, u25, u26, u27, u28, u29, u30, u31, u32, u33, u34, u35, u36, rfl, F⟩ := hI
    have HF := Lib.hid F
    have HNN := Lib.hid hn
    obtain rfl := F.f9 (hall { on := 9, ground := Ground.data } (by simp) rfl)
    have h23 : l.getD 23 false = false := by
      cases h : l.getD 23 false with
      | false => rfl
      | true => exact pAbs hn ((F.d11 (F.d21 (F.d22 (F.d23 h).2)).2.2.1).2)
    have hblk := bl_blk (F.base h23) HX.out
    have c2 := cellN (i := 2) hblk rfl
    clear hn hall F h23 hblk
    unfold FrP
    go_simp
    have F := HF.out
    have hn := HNN.out
    exact hK _ _ ⟨_, _, _, _, _, _, _, _, _, _, _, _, _, _, _, _, _, _, _, _, _, _, _, _, _, rfl, ⟨by rw [Array.size_setIfInBounds]; exact F.sz, fun h => F.f0 (kz l 10 0 h), fun h => F.f1 (kz l 10 1 h), fun h => F.f2 (kz l 10 2 h), fun h => F.f3 (kz l 10 3 h), fun h => F.f5 (kz l 10 5 h), fun h => F.f6 (kz l 10 6 h), fun h => F.f9 (kz l 10 9 h), fun _ => rfl, fun h => F.f12 (kz l 10 12 h), fun h => F.f13 (kz l 10 13 h), fun h => F.f14 (kz l 10 14 h), fun h => F.f15 (kz l 10 15 h), fun h => F.f17 (kz l 10 17 h), fun h => F.f18 (kz l 10 18 h), fun h => F.f19 (kz l 10 19 h), fun h => F.f20 (kz l 10 20 h), fun h => F.f24 (kz l 10 24 h), fun h => F.s4 (kz l 10 4 h), fun h => F.s8 (kz l 10 8 h), fun h h2 => F.c7 (kz l 10 7 h) (kz l 10 23 h2), fun h h2 => F.c11 (kz l 10 11 h) (kz l 10 23 h2), fun h h2 => F.c16 (kz l 10 16 h) (kz l 10 23 h2), fun h h2 => F.c21 (kz l 10 21 h) (kz l 10 23 h2), fun h h2 => F.c22 (kz l 10 22 h) (kz l 10 23 h2), fun h => F.c23 (kz l 10 23 h), fun h => have ⟨x0, x1⟩ := F.d7 (kz l 10 7 h); ⟨pMono x0, pMono x1⟩, fun h => have ⟨x0, x1⟩ := F.d11 (kz l 10 11 h); ⟨pMono x0, pMono x1⟩, fun h => pMono (F.d16 (kz l 10 16 h)), fun h => have ⟨x0, x1, x2, x3, x4, x5, x6⟩ := F.d21 (kz l 10 21 h); ⟨pMono x0, pMono x1, pMono x2, pMono x3, pMono x4, pMono x5, pMono x6⟩, fun h => pMono (F.d22 (kz l 10 22 h)), fun h => have ⟨x0, x1⟩ := F.d23 (kz l 10 23 h); ⟨pMono x0, pMono x1⟩, fun h => have ⟨x0, x1⟩ := F.d25 (kz l 10 25 h); ⟨pMono x0, pMono x1⟩, fun h => F.base (kz l 10 23 h), F.bw, F.bR, fun h => F.p0 (kz l 10 25 h), fun h => F.p1 (kz l 10 25 h)⟩⟩
  · intro l a W hI hn hall K hK
    obtain ⟨u12, u13, u14, u15, u16, u17, u18, u19, u20, u21, u22, u23, u24, u25, u26, u27, u28, u29, u30, u31, u32, u33, u34, u35, u36, rfl, F⟩ := hI
    have HF := Lib.hid F
    have HNN := Lib.hid hn
    have hd8 := hall { on := 8, ground := Ground.data } (by simp) rfl
    have hd10 := hall { on := 10, ground := Ground.data } (by simp) rfl
    obtain ⟨g, rfl⟩ := F.s8 hd8
    obtain rfl := F.f10 hd10
    have h23 : l.getD 23 false = false := by
      cases h : l.getD 23 false with
      | false => rfl
      | true => exact pAbs hn ((F.d21 (F.d22 (F.d23 h).2)).2.2.1)
    have hbs := F.base h23
    refine wp_copy0 _ _ rfl g rfl S _ rfl n.side (HI8.out _ hbs) (by have := HSM.out.side; omega) ?_
    intro v' w' hi' hb
    obtain ⟨X, x, rfl⟩ := hi'.form
    have hnew : C7 NB n.side w' (.slice X n.side.length x) := ⟨X, x, rfl, hi'.move fun b hb' hl => ⟨by have := hbs.size; have := HNB.out; omega, hl, fun _ => rfl⟩⟩
    have F := HF.out
    have hn := HNN.out
    exact hK _ _ ⟨_, _, _, _, _, _, _, _, _, _, _, _, _, _, _, _, _, _, _, _, _, _, _, _, _, rfl, ⟨by rw [Array.size_setIfInBounds]; exact F.sz, fun h => F.f0 (kz l 11 0 h), fun h => F.f1 (kz l 11 1 h), fun h => F.f2 (kz l 11 2 h), fun h => F.f3 (kz l 11 3 h), fun h => F.f5 (kz l 11 5 h), fun h => F.f6 (kz l 11 6 h), fun h => F.f9 (kz l 11 9 h), fun h => F.f10 (kz l 11 10 h), fun h => F.f12 (kz l 11 12 h), fun h => F.f13 (kz l 11 13 h), fun h => F.f14 (kz l 11 14 h), fun h => F.f15 (kz l 11 15 h), fun h => F.f17 (kz l 11 17 h), fun h => F.f18 (kz l 11 18 h), fun h => F.f19 (kz l 11 19 h), fun h => F.f20 (kz l 11 20 h), fun h => F.f24 (kz l 11 24 h), fun h => F.s4 (kz l 11 4 h), fun h => F.s8 (kz l 11 8 h), fun h h2 => (F.c7 (kz l 11 7 h) (kz l 11 23 h2)).below hb, fun _ _ => hnew, fun h h2 => (F.c16 (kz l 11 16 h) (kz l 11 23 h2)).below hb, fun h h2 => (F.c21 (kz l 11 21 h) (kz l 11 23 h2)).below hb, fun h h2 => (F.c22 (kz l 11 22 h) (kz l 11 23 h2)).below hb, fun h => (F.c23 (kz l 11 23 h)).below hb, fun h => have ⟨x0, x1⟩ := F.d7 (kz l 11 7 h); ⟨pMono x0, pMono x1⟩, fun _ => ⟨pMono hd8, pMono hd10⟩, fun h => pMono (F.d16 (kz l 11 16 h)), fun h => have ⟨x0, x1, x2, x3, x4, x5, x6⟩ := F.d21 (kz l 11 21 h); ⟨pMono x0, pMono x1, pMono x2, pMono x3, pMono x4, pMono x5, pMono x6⟩, fun h => pMono (F.d22 (kz l 11 22 h)), fun h => have ⟨x0, x1⟩ := F.d23 (kz l 11 23 h); ⟨pMono x0, pMono x1⟩, fun h => have ⟨x0, x1⟩ := F.d25 (kz l 11 25 h); ⟨pMono x0, pMono x1⟩, fun h => bl_tr (F.base (kz l 11 23 h)) hb, F.bw.trans (hb.mono F.bw.size), bl_blk hb F.bR, fun h => bl_blk hb (F.p0 (kz l 11 25 h)), fun h => bl_blk hb (F.p1 (kz l 11 25 h))⟩⟩
  · intro l a W hI hn hall K hK
    obtain ⟨u12, u13, u14, u15, u16, u17, u18, u19, u20, u21, u22, u23, u24, u25, u26, u27, u28, u29, u30, u31, u32, u33, u34, u35, u36, rfl, F⟩ := hI
    have HF := Lib.hid F
    have HNN := Lib.hid hn
    clear hn hall F
    unfold FrP
    go_simp
    have F := HF.out
    have hn := HNN.out
    exact hK _ _ ⟨_, _, _, _, _, _, _, _, _, _, _, _, _, _, _, _, _, _, _, _, _, _, _, _, _, rfl, ⟨by rw [Array.size_setIfInBounds]; exact F.sz, fun h => F.f0 (kz l 12 0 h), fun h => F.f1 (kz l 12 1 h), fun h => F.f2 (kz l 12 2 h), fun h => F.f3 (kz l 12 3 h), fun h => F.f5 (kz l 12 5 h), fun h => F.f6 (kz l 12 6 h), fun h => F.f9 (kz l 12 9 h), fun h => F.f10 (kz l 12 10 h), fun _ => rfl, fun h => F.f13 (kz l 12 13 h), fun h => F.f14 (kz l 12 14 h), fun h => F.f15 (kz l 12 15 h), fun h => F.f17 (kz l 12 17 h), fun h => F.f18 (kz l 12 18 h), fun h => F.f19 (kz l 12 19 h), fun h => F.f20 (kz l 12 20 h), fun h => F.f24 (kz l 12 24 h), fun h => F.s4 (kz l 12 4 h), fun h => F.s8 (kz l 12 8 h), fun h h2 => F.c7 (kz l 12 7 h) (kz l 12 23 h2), fun h h2 => F.c11 (kz l 12 11 h) (kz l 12 23 h2), fun h h2 => F.c16 (kz l 12 16 h) (kz l 12 23 h2), fun h h2 => F.c21 (kz l 12 21 h) (kz l 12 23 h2), fun h h2 => F.c22 (kz l 12 22 h) (kz l 12 23 h2), fun h => F.c23 (kz l 12 23 h), fun h => have ⟨x0, x1⟩ := F.d7 (kz l 12 7 h); ⟨pMono x0, pMono x1⟩, fun h => have ⟨x0, x1⟩ := F.d11 (kz l 12 11 h); ⟨pMono x0, pMono x1⟩, fun h => pMono (F.d16 (kz l 12 16 h)), fun h => have ⟨x0, x1, x2, x3, x4, x5, x6⟩ := F.d21 (kz l 12 21 h); ⟨pMono x0, pMono x1, pMono x2, pMono x3, pMono x4, pMono x5, pMono x6⟩, fun h => pMono (F.d22 (kz l 12 22 h)), fun h => have ⟨x0, x1⟩ := F.d23 (kz l 12 23 h); ⟨pMono x0, pMono x1⟩, fun h => have ⟨x0, x1⟩ := F.d25 (kz l 12 25 h); ⟨pMono x0, pMono x1⟩, fun h => F.base (kz l 12 23 h), F.bw, F.bR, fun h => F.p0 (kz l 12 25 h), fun h => F.p1 (kz l 12 25 h)⟩⟩
  · intro l a W hI hn hall K hK
    obtain ⟨u12, u13, u14, u15, u16, u17, u18, u19, u20, u21, u22, u23, u24, u25, u26, u27, u28, u29, u30, u31, u32, u33, u34, u35, u36, rfl, F⟩ := hI
    have HF := Lib.hid F
    have HNN := Lib.hid hn
    obtain rfl := F.f12 (hall { on := 12, ground := Ground.data } (by simp) rfl)
    have h23 : l.getD 23 false = false := by
      cases h : l.getD 23 false with
      | false => rfl
      | true => exact pAbs hn ((F.d21 (F.d22 (F.d23 h).2)).2.2.2.1)
    have hblk := bl_blk (F.base h23) HX.out
    have c3 := cellN (i := 3) hblk rfl
    clear hn hall F h23 hblk
    unfold FrP
    go_simp
    have F := HF.out
    have hn := HNN.out
    exact hK _ _ ⟨_, _, _, _, _, _, _, _, _, _, _, _, _, _, _, _, _, _, _, _, _, _, _, _, _, rfl, ⟨by rw [Array.size_setIfInBounds]; exact F.sz, fun h => F.f0 (kz l 13 0 h), fun h => F.f1 (kz l 13 1 h), fun h => F.f2 (kz l 13 2 h), fun h => F.f3 (kz l 13 3 h), fun h => F.f5 (kz l 13 5 h), fun h => F.f6 (kz l 13 6 h), fun h => F.f9 (kz l 13 9 h), fun h => F.f10 (kz l 13 10 h), fun h => F.f12 (kz l 13 12 h), fun _ => rfl, fun h => F.f14 (kz l 13 14 h), fun h => F.f15 (kz l 13 15 h), fun h => F.f17 (kz l 13 17 h), fun h => F.f18 (kz l 13 18 h), fun h => F.f19 (kz l 13 19 h), fun h => F.f20 (kz l 13 20 h), fun h => F.f24 (kz l 13 24 h), fun h => F.s4 (kz l 13 4 h), fun h => F.s8 (kz l 13 8 h), fun h h2 => F.c7 (kz l 13 7 h) (kz l 13 23 h2), fun h h2 => F.c11 (kz l 13 11 h) (kz l 13 23 h2), fun h h2 => F.c16 (kz l 13 16 h) (kz l 13 23 h2), fun h h2 => F.c21 (kz l 13 21 h) (kz l 13 23 h2), fun h h2 => F.c22 (kz l 13 22 h) (kz l 13 23 h2), fun h => F.c23 (kz l 13 23 h), fun h => have ⟨x0, x1⟩ := F.d7 (kz l 13 7 h); ⟨pMono x0, pMono x1⟩, fun h => have ⟨x0, x1⟩ := F.d11 (kz l 13 11 h); ⟨pMono x0, pMono x1⟩, fun h => pMono (F.d16 (kz l 13 16 h)), fun h => have ⟨x0, x1, x2, x3, x4, x5, x6⟩ := F.d21 (kz l 13 21 h); ⟨pMono x0, pMono x1, pMono x2, pMono x3, pMono x4, pMono x5, pMono x6⟩, fun h => pMono (F.d22 (kz l 13 22 h)), fun h => have ⟨x0, x1⟩ := F.d23 (kz l 13 23 h); ⟨pMono x0, pMono x1⟩, fun h => have ⟨x0, x1⟩ := F.d25 (kz l 13 25 h); ⟨pMono x0, pMono x1⟩, fun h => F.base (kz l 13 23 h), F.bw, F.bR, fun h => F.p0 (kz l 13 25 h), fun h => F.p1 (kz l 13 25 h)⟩⟩
  · intro l a W hI hn hall K hK
    obtain ⟨u12, u13, u14, u15, u16, u17, u18, u19, u20, u21, u22, u23, u24, u25, u26, u27, u28, u29, u30, u31, u32, u33, u34, u35, u36, rfl, F⟩ := hI
    have HF := Lib.hid F
    have HNN := Lib.hid hn
    clear hn hall F
    unfold FrP
    go_simp
    have F := HF.out
    have hn := HNN.out
    exact hK _ _ ⟨_, _, _, _, _, _, _, _, _, _, _, _, _, _, _, _, _, _, _, _, _, _, _, _, _, rfl, ⟨by rw [Array.size_setIfInBounds]; exact F.sz, fun h => F.f0 (kz l 14 0 h), fun h => F.f1 (kz l 14 1 h), fun h => F.f2 (kz l 14 2 h), fun h => F.f3 (kz l 14 3 h), fun h => F.f5 (kz l 14 5 h), fun h => F.f6 (kz l 14 6 h), fun h => F.f9 (kz l 14 9 h), fun h => F.f10 (kz l 14 10 h), fun h => F.f12 (kz l 14 12 h), fun h => F.f13 (kz l 14 13 h), fun _ => rfl, fun h => F.f15 (kz l 14 15 h), fun h => F.f17 (kz l 14 17 h), fun h => F.f18 (kz l 14 18 h), fun h => F.f19 (kz l 14 19 h), fun h => F.f20 (kz l 14 20 h), fun h => F.f24 (kz l 14 24 h), fun h => F.s4 (kz l 14 4 h), fun h => F.s8 (kz l 14 8 h), fun h h2 => F.c7 (kz l 14 7 h) (kz l 14 23 h2), fun h h2 => F.c11 (kz l 14 11 h) (kz l 14 23 h2), fun h h2 => F.c16 (kz l 14 16 h) (kz l 14 23 h2), fun h h2 => F.c21 (kz l 14 21 h) (kz l 14 23 h2), fun h h2 => F.c22 (kz l 14 22 h) (kz l 14 23 h2), fun h => F.c23 (kz l 14 23 h), fun h => have ⟨x0, x1⟩ := F.d7 (kz l 14 7 h); ⟨pMono x0, pMono x1⟩, fun h => have ⟨x0, x1⟩ := F.d11 (kz l 14 11 h); ⟨pMono x0, pMono x1⟩, fun h => pMono (F.d16 (kz l 14 16 h)), fun h => have ⟨x0, x1, x2, x3, x4, x5, x6⟩ := F.d21 (kz l 14 21 h); ⟨pMono x0, pMono x1, pMono x2, pMono x3, pMono x4, pMono x5, pMono x6⟩, fun h => pMono (F.d22 (kz l 14 22 h)), fun h => have ⟨x0, x1⟩ := F.d23 (kz l 14 23 h); ⟨pMono x0, pMono x1⟩, fun h => have ⟨x0, x1⟩ := F.d25 (kz l 14 25 h); ⟨pMono x0, pMono x1⟩, fun h => F.base (kz l 14 23 h), F.bw, F.bR, fun h => F.p0 (kz l 14 25 h), fun h => F.p1 (kz l 14 25 h)⟩⟩
  · intro l a W hI hn hall K hK
    obtain ⟨u12, u13, u14, u15, u16, u17, u18, u19, u20, u21, u22, u23, u24, u25, u26, u27, u28, u29, u30, u31, u32, u33, u34, u35, u36, rfl, F⟩ := hI
    have HF := Lib.hid F
    have HNN := Lib.hid hn
    obtain rfl := F.f14 (hall { on := 14, ground := Ground.data } (by simp) rfl)
    have h23 : l.getD 23 false = false := by
      cases h : l.getD 23 false with
      | false => rfl
      | true => exact pAbs hn (F.d16 (F.d21 (F.d22 (F.d23 h).2)).2.2.2.2.1)
    have hblk := bl_blk (F.base h23) HX.out
    have c4 := cellN (i := 4) hblk rfl
    have c5 := cellN (i := 5) hblk rfl
    clear hn hall F h23 hblk
    unfold FrP
    go_simp
    have F := HF.out
    have hn := HNN.out
    exact hK _ _ ⟨_, _, _, _, _, _, _, _, _, _, _, _, _, _, _, _, _, _, _, _, _, _, _, _, _, rfl, ⟨by rw [Array.size_setIfInBounds]; exact F.sz, fun h => F.f0 (kz l 15 0 h), fun h => F.f1 (kz l 15 1 h), fun h => F.f2 (kz l 15 2 h), fun h => F.f3 (kz l 15 3 h), fun h => F.f5 (kz l 15 5 h), fun h => F.f6 (kz l 15 6 h), fun h => F.f9 (kz l 15 9 h), fun h => F.f10 (kz l 15 10 h), fun h => F.f12 (kz l 15 12 h), fun h => F.f13 (kz l 15 13 h), fun h => F.f14 (kz l 15 14 h), fun _ => rfl, fun h => F.f17 (kz l 15 17 h), fun h => F.f18 (kz l 15 18 h), fun h => F.f19 (kz l 15 19 h), fun h => F.f20 (kz l 15 20 h), fun h => F.f24 (kz l 15 24 h), fun h => F.s4 (kz l 15 4 h), fun h => F.s8 (kz l 15 8 h), fun h h2 => F.c7 (kz l 15 7 h) (kz l 15 23 h2), fun h h2 => F.c11 (kz l 15 11 h) (kz l 15 23 h2), fun h h2 => F.c16 (kz l 15 16 h) (kz l 15 23 h2), fun h h2 => F.c21 (kz l 15 21 h) (kz l 15 23 h2), fun h h2 => F.c22 (kz l 15 22 h) (kz l 15 23 h2), fun h => F.c23 (kz l 15 23 h), fun h => have ⟨x0, x1⟩ := F.d7 (kz l 15 7 h); ⟨pMono x0, pMono x1⟩, fun h => have ⟨x0, x1⟩ := F.d11 (kz l 15 11 h); ⟨pMono x0, pMono x1⟩, fun h => pMono (F.d16 (kz l 15 16 h)), fun h => have ⟨x0, x1, x2, x3, x4, x5, x6⟩ := F.d21 (kz l 15 21 h); ⟨pMono x0, pMono x1, pMono x2, pMono x3, pMono x4, pMono x5, pMono x6⟩, fun h => pMono (F.d22 (kz l 15 22 h)), fun h => have ⟨x0, x1⟩ := F.d23 (kz l 15 23 h); ⟨pMono x0, pMono x1⟩, fun h => have ⟨x0, x1⟩ := F.d25 (kz l 15 25 h); ⟨pMono x0, pMono x1⟩, fun h => F.base (kz l 15 23 h), F.bw, F.bR, fun h => F.p0 (kz l 15 25 h), fun h => F.p1 (kz l 15 25 h)⟩⟩
  · intro l a W hI hn hall K hK
    obtain ⟨u12, u13, u14, u15, u16, u17, u18, u19, u20, u21, u22, u23, u24, u25, u26, u27, u28, u29, u30, u31, u32, u33, u34, u35, u36, rfl, F⟩ := hI
    have HF := Lib.hid F
    have HNN := Lib.hid hn
    have hd15 := hall { on := 15, ground := Ground.data } (by simp) rfl
    obtain rfl := F.f15 hd15
    have h23 : l.getD 23 false = false := by
      cases h : l.getD 23 false with
      | false => rfl
      | true => exact pAbs hn ((F.d21 (F.d22 (F.d23 h).2)).2.2.2.2.1)
    have hbs := F.base h23
    have HBS := Lib.hid hbs
    clear hn hall F h23 hbs
    unfold FrP
    go_simp
    refine (HTY.out _ HBS.out).mono ?_
    rintro e w' ⟨⟨v', rfl, ht'⟩, hb⟩
    obtain ⟨X, x, rfl⟩ := ht'.form
    have hnew : C16 NB d n w' (.agg #[.int .i64 n.ty.kind, .slice X n.ty.args.length x]) := ⟨X, x, rfl, TyAt.move (fun b hb' hl => ⟨by have := HBS.out.size; have := HNB.out; omega, fun _ => rfl⟩) _ _ _ ht'⟩
    have F := HF.out
    have hn := HNN.out
    exact hK _ _ ⟨_, _, _, _, _, _, _, _, _, _, _, _, _, _, _, _, _, _, _, _, _, _, _, _, _, rfl, ⟨by rw [Array.size_setIfInBounds]; exact F.sz, fun h => F.f0 (kz l 16 0 h), fun h => F.f1 (kz l 16 1 h), fun h => F.f2 (kz l 16 2 h), fun h => F.f3 (kz l 16 3 h), fun h => F.f5 (kz l 16 5 h), fun h => F.f6 (kz l 16 6 h), fun h => F.f9 (kz l 16 9 h), fun h => F.f10 (kz l 16 10 h), fun h => F.f12 (kz l 16 12 h), fun h => F.f13 (kz l 16 13 h), fun h => F.f14 (kz l 16 14 h), fun h => F.f15 (kz l 16 15 h), fun h => F.f17 (kz l 16 17 h), fun h => F.f18 (kz l 16 18 h), fun h => F.f19 (kz l 16 19 h), fun h => F.f20 (kz l 16 20 h), fun h => F.f24 (kz l 16 24 h), fun h => F.s4 (kz l 16 4 h), fun h => F.s8 (kz l 16 8 h), fun h h2 => (F.c7 (kz l 16 7 h) (kz l 16 23 h2)).below hb, fun h h2 => (F.c11 (kz l 16 11 h) (kz l 16 23 h2)).below hb, fun _ _ => hnew, fun h h2 => (F.c21 (kz l 16 21 h) (kz l 16 23 h2)).below hb, fun h h2 => (F.c22 (kz l 16 22 h) (kz l 16 23 h2)).below hb, fun h => (F.c23 (kz l 16 23 h)).below hb, fun h => have ⟨x0, x1⟩ := F.d7 (kz l 16 7 h); ⟨pMono x0, pMono x1⟩, fun h => have ⟨x0, x1⟩ := F.d11 (kz l 16 11 h); ⟨pMono x0, pMono x1⟩, fun _ => pMono hd15, fun h => have ⟨x0, x1, x2, x3, x4, x5, x6⟩ := F.d21 (kz l 16 21 h); ⟨pMono x0, pMono x1, pMono x2, pMono x3, pMono x4, pMono x5, pMono x6⟩, fun h => pMono (F.d22 (kz l 16 22 h)), fun h => have ⟨x0, x1⟩ := F.d23 (kz l 16 23 h); ⟨pMono x0, pMono x1⟩, fun h => have ⟨x0, x1⟩ := F.d25 (kz l 16 25 h); ⟨pMono x0, pMono x1⟩, fun h => bl_tr (F.base (kz l 16 23 h)) hb, F.bw.trans (hb.mono F.bw.size), bl_blk hb F.bR, fun h => bl_blk hb (F.p0 (kz l 16 25 h)), fun h => bl_blk hb (F.p1 (kz l 16 25 h))⟩⟩
  · intro l a W hI hn hall K hK
    obtain ⟨u12, u13, u14, u15, u16, u17, u18, u19, u20, u21, u22, u23, u24, u25, u26, u27, u28, u29, u30, u31, u32, u33, u34, u35, u36, rfl, F⟩ := hI
    have HF := Lib.hid F
    have HNN := Lib.hid hn
    clear hn hall F
    unfold FrP
    go_simp
    have F := HF.out
    have hn := HNN.out
    exact hK _ _ ⟨_, _, _, _, _, _, _, _, _, _, _, _, _, _, _, _, _, _, _, _, _, _, _, _, _, rfl, ⟨by rw [Array.size_setIfInBounds]; exact F.sz, fun h => F.f0 (kz l 17 0 h), fun h => F.f1 (kz l 17 1 h), fun h => F.f2 (kz l 17 2 h), fun h => F.f3 (kz l 17 3 h), fun h => F.f5 (kz l 17 5 h), fun h => F.f6 (kz l 17 6 h), fun h => F.f9 (kz l 17 9 h), fun h => F.f10 (kz l 17 10 h), fun h => F.f12 (kz l 17 12 h), fun h => F.f13 (kz l 17 13 h), fun h => F.f14 (kz l 17 14 h), fun h => F.f15 (kz l 17 15 h), fun _ => rfl, fun h => F.f18 (kz l 17 18 h), fun h => F.f19 (kz l 17 19 h), fun h => F.f20 (kz l 17 20 h), fun h => F.f24 (kz l 17 24 h), fun h => F.s4 (kz l 17 4 h), fun h => F.s8 (kz l 17 8 h), fun h h2 => F.c7 (kz l 17 7 h) (kz l 17 23 h2), fun h h2 => F.c11 (kz l 17 11 h) (kz l 17 23 h2), fun h h2 => F.c16 (kz l 17 16 h) (kz l 17 23 h2), fun h h2 => F.c21 (kz l 17 21 h) (kz l 17 23 h2), fun h h2 => F.c22 (kz l 17 22 h) (kz l 17 23 h2), fun h => F.c23 (kz l 17 23 h), fun h => have ⟨x0, x1⟩ := F.d7 (kz l 17 7 h); ⟨pMono x0, pMono x1⟩, fun h => have ⟨x0, x1⟩ := F.d11 (kz l 17 11 h); ⟨pMono x0, pMono x1⟩, fun h => pMono (F.d16 (kz l 17 16 h)), fun h => have ⟨x0, x1, x2, x3, x4, x5, x6⟩ := F.d21 (kz l 17 21 h); ⟨pMono x0, pMono x1, pMono x2, pMono x3, pMono x4, pMono x5, pMono x6⟩, fun h => pMono (F.d22 (kz l 17 22 h)), fun h => have ⟨x0, x1⟩ := F.d23 (kz l 17 23 h); ⟨pMono x0, pMono x1⟩, fun h => have ⟨x0, x1⟩ := F.d25 (kz l 17 25 h); ⟨pMono x0, pMono x1⟩, fun h => F.base (kz l 17 23 h), F.bw, F.bR, fun h => F.p0 (kz l 17 25 h), fun h => F.p1 (kz l 17 25 h)⟩⟩
  · intro l a W hI hn hall K hK
    obtain ⟨u12, u13, u14, u15, u16, u17, u18, u19, u20, u21, u22, u23, u24, u25, u26, u27, u28, u29, u30, u31, u32, u33, u34, u35, u36, rfl, F⟩ := hI
    have HF := Lib.hid F
    have HNN := Lib.hid hn
    obtain rfl := F.f17 (hall { on := 17, ground := Ground.data } (by simp) rfl)
    have h23 : l.getD 23 false = false := by
      cases h : l.getD 23 false with
      | false => rfl
      | true => exact pAbs hn ((F.d21 (F.d22 (F.d23 h).2)).2.2.2.2.2.1)
    have hblk := bl_blk (F.base h23) HX.out
    have c6 := cellN (i := 6) hblk rfl
    have c7 := cellN (i := 7) hblk rfl
    have c8 := cellN (i := 8) hblk rfl
    have c9 := cellN (i := 9) hblk rfl
    clear hn hall F h23 hblk
    unfold FrP
    go_simp
    have F := HF.out
    have hn := HNN.out
    exact hK _ _ ⟨_, _, _, _, _, _, _, _, _, _, _, _, _, _, _, _, _, _, _, _, _, _, _, _, _, rfl, ⟨by rw [Array.size_setIfInBounds]; exact F.sz, fun h => F.f0 (kz l 18 0 h), fun h => F.f1 (kz l 18 1 h), fun h => F.f2 (kz l 18 2 h), fun h => F.f3 (kz l 18 3 h), fun h => F.f5 (kz l 18 5 h), fun h => F.f6 (kz l 18 6 h), fun h => F.f9 (kz l 18 9 h), fun h => F.f10 (kz l 18 10 h), fun h => F.f12 (kz l 18 12 h), fun h => F.f13 (kz l 18 13 h), fun h => F.f14 (kz l 18 14 h), fun h => F.f15 (kz l 18 15 h), fun h => F.f17 (kz l 18 17 h), fun _ => rfl, fun h => F.f19 (kz l 18 19 h), fun h => F.f20 (kz l 18 20 h), fun h => F.f24 (kz l 18 24 h), fun h => F.s4 (kz l 18 4 h), fun h => F.s8 (kz l 18 8 h), fun h h2 => F.c7 (kz l 18 7 h) (kz l 18 23 h2), fun h h2 => F.c11 (kz l 18 11 h) (kz l 18 23 h2), fun h h2 => F.c16 (kz l 18 16 h) (kz l 18 23 h2), fun h h2 => F.c21 (kz l 18 21 h) (kz l 18 23 h2), fun h h2 => F.c22 (kz l 18 22 h) (kz l 18 23 h2), fun h => F.c23 (kz l 18 23 h), fun h => have ⟨x0, x1⟩ := F.d7 (kz l 18 7 h); ⟨pMono x0, pMono x1⟩, fun h => have ⟨x0, x1⟩ := F.d11 (kz l 18 11 h); ⟨pMono x0, pMono x1⟩, fun h => pMono (F.d16 (kz l 18 16 h)), fun h => have ⟨x0, x1, x2, x3, x4, x5, x6⟩ := F.d21 (kz l 18 21 h); ⟨pMono x0, pMono x1, pMono x2, pMono x3, pMono x4, pMono x5, pMono x6⟩, fun h => pMono (F.d22 (kz l 18 22 h)), fun h => have ⟨x0, x1⟩ := F.d23 (kz l 18 23 h); ⟨pMono x0, pMono x1⟩, fun h => have ⟨x0, x1⟩ := F.d25 (kz l 18 25 h); ⟨pMono x0, pMono x1⟩, fun h => F.base (kz l 18 23 h), F.bw, F.bR, fun h => F.p0 (kz l 18 25 h), fun h => F.p1 (kz l 18 25 h)⟩⟩
  · intro l a W hI hn hall K hK
    obtain ⟨u12, u13, u14, u15, u16, u17, u18, u19, u20, u21, u22, u23, u24, u25, u26, u27, u28, u29, u30, u31, u32, u33, u34, u35, u36, rfl, F⟩ := hI
    have HF := Lib.hid F
    have HNN := Lib.hid hn
    clear hn hall F
    unfold FrP
    go_simp
    have F := HF.out
    have hn := HNN.out
    exact hK _ _ ⟨_, _, _, _, _, _, _, _, _, _, _, _, _, _, _, _, _, _, _, _, _, _, _, _, _, rfl, ⟨by rw [Array.size_setIfInBounds]; exact F.sz, fun h => F.f0 (kz l 19 0 h), fun h => F.f1 (kz l 19 1 h), fun h => F.f2 (kz l 19 2 h), fun h => F.f3 (kz l 19 3 h), fun h => F.f5 (kz l 19 5 h), fun h => F.f6 (kz l 19 6 h), fun h => F.f9 (kz l 19 9 h), fun h => F.f10 (kz l 19 10 h), fun h => F.f12 (kz l 19 12 h), fun h => F.f13 (kz l 19 13 h), fun h => F.f14 (kz l 19 14 h), fun h => F.f15 (kz l 19 15 h), fun h => F.f17 (kz l 19 17 h), fun h => F.f18 (kz l 19 18 h), fun _ => rfl, fun h => F.f20 (kz l 19 20 h), fun h => F.f24 (kz l 19 24 h), fun h => F.s4 (kz l 19 4 h), fun h => F.s8 (kz l 19 8 h), fun h h2 => F.c7 (kz l 19 7 h) (kz l 19 23 h2), fun h h2 => F.c11 (kz l 19 11 h) (kz l 19 23 h2), fun h h2 => F.c16 (kz l 19 16 h) (kz l 19 23 h2), fun h h2 => F.c21 (kz l 19 21 h) (kz l 19 23 h2), fun h h2 => F.c22 (kz l 19 22 h) (kz l 19 23 h2), fun h => F.c23 (kz l 19 23 h), fun h => have ⟨x0, x1⟩ := F.d7 (kz l 19 7 h); ⟨pMono x0, pMono x1⟩, fun h => have ⟨x0, x1⟩ := F.d11 (kz l 19 11 h); ⟨pMono x0, pMono x1⟩, fun h => pMono (F.d16 (kz l 19 16 h)), fun h => have ⟨x0, x1, x2, x3, x4, x5, x6⟩ := F.d21 (kz l 19 21 h); ⟨pMono x0, pMono x1, pMono x2, pMono x3, pMono x4, pMono x5, pMono x6⟩, fun h => pMono (F.d22 (kz l 19 22 h)), fun h => have ⟨x0, x1⟩ := F.d23 (kz l 19 23 h); ⟨pMono x0, pMono x1⟩, fun h => have ⟨x0, x1⟩ := F.d25 (kz l 19 25 h); ⟨pMono x0, pMono x1⟩, fun h => F.base (kz l 19 23 h), F.bw, F.bR, fun h => F.p0 (kz l 19 25 h), fun h => F.p1 (kz l 19 25 h)⟩⟩
  · intro l a W hI hn hall K hK
    obtain ⟨u12, u13, u14, u15, u16, u17, u18, u19, u20, u21, u22, u23, u24, u25, u26, u27, u28, u29, u30, u31, u32, u33, u34, u35, u36, rfl, F⟩ := hI
    have HF := Lib.hid F
    have HNN := Lib.hid hn
    obtain rfl := F.f19 (hall { on := 19, ground := Ground.data } (by simp) rfl)
    have h23 : l.getD 23 false = false := by
      cases h : l.getD 23 false with
      | false => rfl
      | true => exact pAbs hn ((F.d21 (F.d22 (F.d23 h).2)).2.2.2.2.2.2)
    have hblk := bl_blk (F.base h23) HX.out
    have c10 := cellN (i := 10) hblk rfl
    have c11 := cellN (i := 11) hblk rfl
    have c12 := cellN (i := 12) hblk rfl
    have c13 := cellN (i := 13) hblk rfl
    clear hn hall F h23 hblk
    unfold FrP
    go_simp
    have F := HF.out
    have hn := HNN.out
    exact hK _ _ ⟨_, _, _, _, _, _, _, _, _, _, _, _, _, _, _, _, _, _, _, _, _, _, _, _, _, rfl, ⟨by rw [Array.size_setIfInBounds]; exact F.sz, fun h => F.f0 (kz l 20 0 h), fun h => F.f1 (kz l 20 1 h), fun h => F.f2 (kz l 20 2 h), fun h => F.f3 (kz l 20 3 h), fun h => F.f5 (kz l 20 5 h), fun h => F.f6 (kz l 20 6 h), fun h => F.f9 (kz l 20 9 h), fun h => F.f10 (kz l 20 10 h), fun h => F.f12 (kz l 20 12 h), fun h => F.f13 (kz l 20 13 h), fun h => F.f14 (kz l 20 14 h), fun h => F.f15 (kz l 20 15 h), fun h => F.f17 (kz l 20 17 h), fun h => F.f18 (kz l 20 18 h), fun h => F.f19 (kz l 20 19 h), fun _ => rfl, fun h => F.f24 (kz l 20 24 h), fun h => F.s4 (kz l 20 4 h), fun h => F.s8 (kz l 20 8 h), fun h h2 => F.c7 (kz l 20 7 h) (kz l 20 23 h2), fun h h2 => F.c11 (kz l 20 11 h) (kz l 20 23 h2), fun h h2 => F.c16 (kz l 20 16 h) (kz l 20 23 h2), fun h h2 => F.c21 (kz l 20 21 h) (kz l 20 23 h2), fun h h2 => F.c22 (kz l 20 22 h) (kz l 20 23 h2), fun h => F.c23 (kz l 20 23 h), fun h => have ⟨x0, x1⟩ := F.d7 (kz l 20 7 h); ⟨pMono x0, pMono x1⟩, fun h => have ⟨x0, x1⟩ := F.d11 (kz l 20 11 h); ⟨pMono x0, pMono x1⟩, fun h => pMono (F.d16 (kz l 20 16 h)), fun h => have ⟨x0, x1, x2, x3, x4, x5, x6⟩ := F.d21 (kz l 20 21 h); ⟨pMono x0, pMono x1, pMono x2, pMono x3, pMono x4, pMono x5, pMono x6⟩, fun h => pMono (F.d22 (kz l 20 22 h)), fun h => have ⟨x0, x1⟩ := F.d23 (kz l 20 23 h); ⟨pMono x0, pMono x1⟩, fun h => have ⟨x0, x1⟩ := F.d25 (kz l 20 25 h); ⟨pMono x0, pMono x1⟩, fun h => F.base (kz l 20 23 h), F.bw, F.bR, fun h => F.p0 (kz l 20 25 h), fun h => F.p1 (kz l 20 25 h)⟩⟩
  · intro l a W hI hn hall K hK
    obtain ⟨u12, u13, u14, u15, u16, u17, u18, u19, u20, u21, u22, u23, u24, u25, u26, u27, u28, u29, u30, u31, u32, u33, u34, u35, u36, rfl, F⟩ := hI
    have HF := Lib.hid F
    have HNN := Lib.hid hn
    have hd3 := hall { on := 3, ground := Ground.data } (by simp) rfl
    have hd7 := hall { on := 7, ground := Ground.data } (by simp) rfl
    have hd11 := hall { on := 11, ground := Ground.data } (by simp) rfl
    have hd13 := hall { on := 13, ground := Ground.data } (by simp) rfl
    have hd16 := hall { on := 16, ground := Ground.data } (by simp) rfl
    have hd18 := hall { on := 18, ground := Ground.data } (by simp) rfl
    have hd20 := hall { on := 20, ground := Ground.data } (by simp) rfl
    have h23 : l.getD 23 false = false := by
      cases h : l.getD 23 false with
      | false => rfl
      | true => exact pAbs hn (F.d22 (F.d23 h).2)
    obtain rfl := F.f3 hd3
    obtain rfl := F.f13 hd13
    obtain rfl := F.f18 hd18
    obtain rfl := F.f20 hd20
    obtain ⟨X, x, rfl, h7⟩ := F.c7 hd7 h23
    obtain ⟨Y, y, rfl, h11⟩ := F.c11 hd11 h23
    obtain ⟨Z, z, rfl, h16⟩ := F.c16 hd16 h23
    have hnew : C21 NB d n W (.agg #[.int .i64 n.op, .slice X n.ins.length x, .slice Y n.side.length y, .string ⟨n.text.toArray⟩, .int .i64 n.ty.kind, .slice Z n.ty.args.length z, .int .i64 n.f0, .int .i64 n.f1, .int .i64 n.f2, .int .i64 n.f3, .int .i64 n.e, .int .i64 n.l, .int .i64 n.lt, .bool n.acc]) := ⟨X, Y, Z, x, y, z, rfl, X, Y, Z, x, y, z, rfl, h7, h11, h16⟩
    have HNEW := Lib.hid hnew
    clear hn hall F h23 h7 h11 h16 hnew
    unfold FrP
    go_simp
    have hnew := HNEW.out
    have F := HF.out
    have hn := HNN.out
    exact hK _ _ ⟨_, _, _, _, _, _, _, _, _, _, _, _, _, _, _, _, _, _, _, _, _, _, _, _, _, rfl, ⟨by rw [Array.size_setIfInBounds]; exact F.sz, fun h => F.f0 (kz l 21 0 h), fun h => F.f1 (kz l 21 1 h), fun h => F.f2 (kz l 21 2 h), fun h => F.f3 (kz l 21 3 h), fun h => F.f5 (kz l 21 5 h), fun h => F.f6 (kz l 21 6 h), fun h => F.f9 (kz l 21 9 h), fun h => F.f10 (kz l 21 10 h), fun h => F.f12 (kz l 21 12 h), fun h => F.f13 (kz l 21 13 h), fun h => F.f14 (kz l 21 14 h), fun h => F.f15 (kz l 21 15 h), fun h => F.f17 (kz l 21 17 h), fun h => F.f18 (kz l 21 18 h), fun h => F.f19 (kz l 21 19 h), fun h => F.f20 (kz l 21 20 h), fun h => F.f24 (kz l 21 24 h), fun h => F.s4 (kz l 21 4 h), fun h => F.s8 (kz l 21 8 h), fun h h2 => F.c7 (kz l 21 7 h) (kz l 21 23 h2), fun h h2 => F.c11 (kz l 21 11 h) (kz l 21 23 h2), fun h h2 => F.c16 (kz l 21 16 h) (kz l 21 23 h2), fun _ _ => hnew, fun h h2 => F.c22 (kz l 21 22 h) (kz l 21 23 h2), fun h => F.c23 (kz l 21 23 h), fun h => have ⟨x0, x1⟩ := F.d7 (kz l 21 7 h); ⟨pMono x0, pMono x1⟩, fun h => have ⟨x0, x1⟩ := F.d11 (kz l 21 11 h); ⟨pMono x0, pMono x1⟩, fun h => pMono (F.d16 (kz l 21 16 h)), fun _ => ⟨pMono hd3, pMono hd7, pMono hd11, pMono hd13, pMono hd16, pMono hd18, pMono hd20⟩, fun h => pMono (F.d22 (kz l 21 22 h)), fun h => have ⟨x0, x1⟩ := F.d23 (kz l 21 23 h); ⟨pMono x0, pMono x1⟩, fun h => have ⟨x0, x1⟩ := F.d25 (kz l 21 25 h); ⟨pMono x0, pMono x1⟩, fun h => F.base (kz l 21 23 h), F.bw, F.bR, fun h => F.p0 (kz l 21 25 h), fun h => F.p1 (kz l 21 25 h)⟩⟩
  · intro l a W hI hn hall K hK
    obtain ⟨u12, u13, u14, u15, u16, u17, u18, u19, u20, u21, u22, u23, u24, u25, u26, u27, u28, u29, u30, u31, u32, u33, u34, u35, u36, rfl, F⟩ := hI
    have HF := Lib.hid F
    have HNN := Lib.hid hn
    have hd21 := hall { on := 21, ground := Ground.data } (by simp) rfl
    have h23 : l.getD 23 false = false := by
      cases h : l.getD 23 false with
      | false => rfl
      | true => exact pAbs hn ((F.d23 h).2)
    obtain ⟨X, Y, Z, x, y, z, rfl, hg⟩ := F.c21 hd21 h23
    have HG := Lib.hid hg
    clear hn hall F h23 hg
    unfold FrP
    go_simp
    have hb : Below W.heap.size W (W.alloc (.cells #[.int .i64 n.op, .slice X n.ins.length x, .slice Y n.side.length y, .string ⟨n.text.toArray⟩, .int .i64 n.ty.kind, .slice Z n.ty.args.length z, .int .i64 n.f0, .int .i64 n.f1, .int .i64 n.f2, .int .i64 n.f3, .int .i64 n.e, .int .i64 n.l, .int .i64 n.lt, .bool n.acc] 83)) := bl_al (Below.refl _ _) _
    have hnew : C22 NB d n (W.alloc (.cells #[.int .i64 n.op, .slice X n.ins.length x, .slice Y n.side.length y, .string ⟨n.text.toArray⟩, .int .i64 n.ty.kind, .slice Z n.ty.args.length z, .int .i64 n.f0, .int .i64 n.f1, .int .i64 n.f2, .int .i64 n.f3, .int .i64 n.e, .int .i64 n.l, .int .i64 n.lt, .bool n.acc] 83)) (.slice (some ⟨W.heap.size, 0, none⟩) 1 1) := ⟨_, X, Y, Z, x, y, z, rfl, heap_alloc_new W _, HG.out.below hb⟩
    have F := HF.out
    have hn := HNN.out
    exact hK _ _ ⟨_, _, _, _, _, _, _, _, _, _, _, _, _, _, _, _, _, _, _, _, _, _, _, _, _, rfl, ⟨by rw [Array.size_setIfInBounds]; exact F.sz, fun h => F.f0 (kz l 22 0 h), fun h => F.f1 (kz l 22 1 h), fun h => F.f2 (kz l 22 2 h), fun h => F.f3 (kz l 22 3 h), fun h => F.f5 (kz l 22 5 h), fun h => F.f6 (kz l 22 6 h), fun h => F.f9 (kz l 22 9 h), fun h => F.f10 (kz l 22 10 h), fun h => F.f12 (kz l 22 12 h), fun h => F.f13 (kz l 22 13 h), fun h => F.f14 (kz l 22 14 h), fun h => F.f15 (kz l 22 15 h), fun h => F.f17 (kz l 22 17 h), fun h => F.f18 (kz l 22 18 h), fun h => F.f19 (kz l 22 19 h), fun h => F.f20 (kz l 22 20 h), fun h => F.f24 (kz l 22 24 h), fun h => F.s4 (kz l 22 4 h), fun h => F.s8 (kz l 22 8 h), fun h h2 => (F.c7 (kz l 22 7 h) (kz l 22 23 h2)).below hb, fun h h2 => (F.c11 (kz l 22 11 h) (kz l 22 23 h2)).below hb, fun h h2 => (F.c16 (kz l 22 16 h) (kz l 22 23 h2)).below hb, fun h h2 => (F.c21 (kz l 22 21 h) (kz l 22 23 h2)).below hb, fun _ _ => hnew, fun h => (F.c23 (kz l 22 23 h)).below hb, fun h => have ⟨x0, x1⟩ := F.d7 (kz l 22 7 h); ⟨pMono x0, pMono x1⟩, fun h => have ⟨x0, x1⟩ := F.d11 (kz l 22 11 h); ⟨pMono x0, pMono x1⟩, fun h => pMono (F.d16 (kz l 22 16 h)), fun h => have ⟨x0, x1, x2, x3, x4, x5, x6⟩ := F.d21 (kz l 22 21 h); ⟨pMono x0, pMono x1, pMono x2, pMono x3, pMono x4, pMono x5, pMono x6⟩, fun _ => pMono hd21, fun h => have ⟨x0, x1⟩ := F.d23 (kz l 22 23 h); ⟨pMono x0, pMono x1⟩, fun h => have ⟨x0, x1⟩ := F.d25 (kz l 22 25 h); ⟨pMono x0, pMono x1⟩, fun h => bl_tr (F.base (kz l 22 23 h)) hb, F.bw.trans (hb.mono F.bw.size), bl_blk hb F.bR, fun h => bl_blk hb (F.p0 (kz l 22 25 h)), fun h => bl_blk hb (F.p1 (kz l 22 25 h))⟩⟩
  · intro l a W hI hn hall K hK
    obtain ⟨u12, u13, u14, u15, u16, u17, u18, u19, u20, u21, u22, u23, u24, u25, u26, u27, u28, u29, u30, u31, u32, u33, u34, u35, u36, rfl, F⟩ := hI
    have HF := Lib.hid F
    have HNN := Lib.hid hn
    have hd1 := hall { on := 1, ground := Ground.data } (by simp) rfl
    have hd22 := hall { on := 22, ground := Ground.data } (by simp) rfl
    have h23 : l.getD 23 false = false := by
      cases h : l.getD 23 false with
      | false => rfl
      | true => exact pAbs hn (h)
    have h25 : l.getD 25 false = false := by
      cases h : l.getD 25 false with
      | false => rfl
      | true => rw [(F.d25 h).1] at h23; cases h23
    obtain rfl := F.f1 hd1
    obtain ⟨B, X, Y, Z, x, y, z, rfl, hB, hg⟩ := F.c22 hd22 h23
    have hbs := F.base h23
    obtain ⟨xs9, hown9, hn9⟩ := HO.out.keep hbs
    have hP := F.p0 h25
    have hR := F.bR
    have e1 := HPB.out
    have e2 := HRB.out
    have e3 := HNB.out
    have hsz := hbs.size
    refine wp_append_lies W _ _ 25 rfl (w.heap.size + 2) 83 i0 (.agg #[.int .i64 0, .slice none 0 0, .slice none 0 0, .string ⟨#[]⟩, .int .i64 0, .slice none 0 0, .int .i64 0, .int .i64 0, .int .i64 0, .int .i64 0, .int .i64 0, .int .i64 0, .int .i64 0, .bool false]) 14 168 Tryz.underlying25 hi hq0 hq1 hq2 rfl (by decide) (.slice PA pre.length pc) pre.length xs9 rfl hown9 ⟨B, 0, none⟩ 1 1 [.int .i64 n.op, .slice X n.ins.length x, .slice Y n.side.length y, .string ⟨n.text.toArray⟩, .int .i64 n.ty.kind, .slice Z n.ty.args.length z, .int .i64 n.f0, .int .i64 n.f1, .int .i64 n.f2, .int .i64 n.f3, .int .i64 n.e, .int .i64 n.l, .int .i64 n.lt, .bool n.acc] rfl rfl (World.news_of_block (cs := #[.int .i64 n.op, .slice X n.ins.length x, .slice Y n.side.length y, .string ⟨n.text.toArray⟩, .int .i64 n.ty.kind, .slice Z n.ty.args.length z, .int .i64 n.f0, .int .i64 n.f1, .int .i64 n.f2, .int .i64 n.f3, .int .i64 n.e, .int .i64 n.l, .int .i64 n.lt, .bool n.acc]) (t := 83) (fr := (0, 0)) hB) (by simp [Value.oneCell']) (by decide) (by unfold maxLen; omega) (by omega) (by omega) _ rfl ?_
    intro gg cap w' hown' hgr hat' hlt'
    have hfar : ∀ k, k < w.heap.size + 2 → k < W.heap.size → w'.heap[k]? = W.heap[k]? := fun k hk hl => hgr.block k hl (fun e => by have := (hown9.lt k e.symm).1; omega)
    have hp0 := (hfar PB (by omega) (cell_lt hP)).trans hP
    have hbR : w'.heap[RB]? = some R0 := (hfar RB (by omega) (by omega)).trans hR
    have hnew : C23 w d pre n w' (.slice (some ⟨gg, 0, none⟩) (pre.length + 1) cap) := by
      refine ⟨_, _, rfl, NsO.more hown9 hn9 (hg.move fun b hb hl => ⟨⟨by omega, fun e => ?_⟩, hl, fun _ => rfl⟩) hown' hgr ?_⟩
      · have := HOL.out b e.symm
        omega
      · rcases hat' with h | h
        · exact .inl h.symm
        · exact .inr ⟨gg, rfl, by omega⟩
    have F := HF.out
    have hn := HNN.out
    exact hK _ _ ⟨_, _, _, _, _, _, _, _, _, _, _, _, _, _, _, _, _, _, _, _, _, _, _, _, _, rfl, ⟨by rw [Array.size_setIfInBounds]; exact F.sz, fun h => F.f0 (kz l 23 0 h), fun h => F.f1 (kz l 23 1 h), fun h => F.f2 (kz l 23 2 h), fun h => F.f3 (kz l 23 3 h), fun h => F.f5 (kz l 23 5 h), fun h => F.f6 (kz l 23 6 h), fun h => F.f9 (kz l 23 9 h), fun h => F.f10 (kz l 23 10 h), fun h => F.f12 (kz l 23 12 h), fun h => F.f13 (kz l 23 13 h), fun h => F.f14 (kz l 23 14 h), fun h => F.f15 (kz l 23 15 h), fun h => F.f17 (kz l 23 17 h), fun h => F.f18 (kz l 23 18 h), fun h => F.f19 (kz l 23 19 h), fun h => F.f20 (kz l 23 20 h), fun h => F.f24 (kz l 23 24 h), fun h => F.s4 (kz l 23 4 h), fun h => F.s8 (kz l 23 8 h), fun _ h => pAbs2 (by rw [F.sz]; decide) h, fun _ h => pAbs2 (by rw [F.sz]; decide) h, fun _ h => pAbs2 (by rw [F.sz]; decide) h, fun _ h => pAbs2 (by rw [F.sz]; decide) h, fun _ h => pAbs2 (by rw [F.sz]; decide) h, fun _ => hnew, fun h => have ⟨x0, x1⟩ := F.d7 (kz l 23 7 h); ⟨pMono x0, pMono x1⟩, fun h => have ⟨x0, x1⟩ := F.d11 (kz l 23 11 h); ⟨pMono x0, pMono x1⟩, fun h => pMono (F.d16 (kz l 23 16 h)), fun h => have ⟨x0, x1, x2, x3, x4, x5, x6⟩ := F.d21 (kz l 23 21 h); ⟨pMono x0, pMono x1, pMono x2, pMono x3, pMono x4, pMono x5, pMono x6⟩, fun h => pMono (F.d22 (kz l 23 22 h)), fun _ => ⟨pMono hd1, pMono hd22⟩, fun h => have ⟨x0, x1⟩ := F.d25 (kz l 23 25 h); ⟨pMono x0, pMono x1⟩, fun h => pAbs2 (by rw [F.sz]; decide) h, F.bw.grown hgr F.bw.size (fun k hk => Nat.le_trans (by omega) (hown9.lt k hk).1), hbR, fun h => hp0, fun h => pAbs hn (F.d25 (kz l 23 25 h)).1⟩⟩
  · intro l a W hI hn hall K hK
    obtain ⟨u12, u13, u14, u15, u16, u17, u18, u19, u20, u21, u22, u23, u24, u25, u26, u27, u28, u29, u30, u31, u32, u33, u34, u35, u36, rfl, F⟩ := hI
    have HF := Lib.hid F
    have HNN := Lib.hid hn
    clear hn hall F
    unfold FrP
    go_simp
    have F := HF.out
    have hn := HNN.out
    exact hK _ _ ⟨_, _, _, _, _, _, _, _, _, _, _, _, _, _, _, _, _, _, _, _, _, _, _, _, _, rfl, ⟨by rw [Array.size_setIfInBounds]; exact F.sz, fun h => F.f0 (kz l 24 0 h), fun h => F.f1 (kz l 24 1 h), fun h => F.f2 (kz l 24 2 h), fun h => F.f3 (kz l 24 3 h), fun h => F.f5 (kz l 24 5 h), fun h => F.f6 (kz l 24 6 h), fun h => F.f9 (kz l 24 9 h), fun h => F.f10 (kz l 24 10 h), fun h => F.f12 (kz l 24 12 h), fun h => F.f13 (kz l 24 13 h), fun h => F.f14 (kz l 24 14 h), fun h => F.f15 (kz l 24 15 h), fun h => F.f17 (kz l 24 17 h), fun h => F.f18 (kz l 24 18 h), fun h => F.f19 (kz l 24 19 h), fun h => F.f20 (kz l 24 20 h), fun _ => rfl, fun h => F.s4 (kz l 24 4 h), fun h => F.s8 (kz l 24 8 h), fun h h2 => F.c7 (kz l 24 7 h) (kz l 24 23 h2), fun h h2 => F.c11 (kz l 24 11 h) (kz l 24 23 h2), fun h h2 => F.c16 (kz l 24 16 h) (kz l 24 23 h2), fun h h2 => F.c21 (kz l 24 21 h) (kz l 24 23 h2), fun h h2 => F.c22 (kz l 24 22 h) (kz l 24 23 h2), fun h => F.c23 (kz l 24 23 h), fun h => have ⟨x0, x1⟩ := F.d7 (kz l 24 7 h); ⟨pMono x0, pMono x1⟩, fun h => have ⟨x0, x1⟩ := F.d11 (kz l 24 11 h); ⟨pMono x0, pMono x1⟩, fun h => pMono (F.d16 (kz l 24 16 h)), fun h => have ⟨x0, x1, x2, x3, x4, x5, x6⟩ := F.d21 (kz l 24 21 h); ⟨pMono x0, pMono x1, pMono x2, pMono x3, pMono x4, pMono x5, pMono x6⟩, fun h => pMono (F.d22 (kz l 24 22 h)), fun h => have ⟨x0, x1⟩ := F.d23 (kz l 24 23 h); ⟨pMono x0, pMono x1⟩, fun h => have ⟨x0, x1⟩ := F.d25 (kz l 24 25 h); ⟨pMono x0, pMono x1⟩, fun h => F.base (kz l 24 23 h), F.bw, F.bR, fun h => F.p0 (kz l 24 25 h), fun h => F.p1 (kz l 24 25 h)⟩⟩
  · intro l a W hI hn hall K hK
    obtain ⟨u12, u13, u14, u15, u16, u17, u18, u19, u20, u21, u22, u23, u24, u25, u26, u27, u28, u29, u30, u31, u32, u33, u34, u35, u36, rfl, F⟩ := hI
    have HF := Lib.hid F
    have HNN := Lib.hid hn
    have hd23 := hall { on := 23, ground := Ground.data } (by simp) rfl
    have hd24 := hall { on := 24, ground := Ground.data } (by simp) rfl
    obtain rfl := F.f24 hd24
    obtain ⟨GA, gc, rfl, hns⟩ := F.c23 hd23
    have hP := F.p0 (pNo hn)
    have c0 := cellN (i := 0) hP rfl
    have cf := frozN (i := 0) hP
    have cl := cell_lt hP
    have HP := Lib.hid hP
    have HNS := Lib.hid hns
    clear hn hall F hP hns
    unfold FrP
    go_simp
    have e1 := HPB.out
    have e2 := HRB.out
    have hc23 : C23 w d pre n (W.setCell ⟨PB, 0, none⟩ (.slice GA (pre.length + 1) gc)) (.slice GA (pre.length + 1) gc) := ⟨_, _, rfl, HNS.out.far (by omega)⟩
    have hp1 : (W.setCell ⟨PB, 0, none⟩ (.slice GA (pre.length + 1) gc)).heap[PB]? = some (.cells #[.slice GA (pre.length + 1) gc] 27 (0, 0)) := by simp [World.setCell, Array.getElem?_modify, HP.out]
    have hbR : (W.setCell ⟨PB, 0, none⟩ (.slice GA (pre.length + 1) gc)).heap[RB]? = some R0 := (Below.heap_setCell W ⟨PB, 0, none⟩ _ RB (by show RB ≠ PB; omega)).trans HF.out.bR
    have hbw : Below w.heap.size w (W.setCell ⟨PB, 0, none⟩ (.slice GA (pre.length + 1) gc)) := HF.out.bw.setCell (p := ⟨PB, 0, none⟩) (by show _ ≤ PB; omega) _
    have F := HF.out
    have hn := HNN.out
    exact hK _ _ ⟨_, _, _, _, _, _, _, _, _, _, _, _, _, _, _, _, _, _, _, _, _, _, _, _, _, rfl, ⟨by rw [Array.size_setIfInBounds]; exact F.sz, fun h => F.f0 (kz l 25 0 h), fun h => F.f1 (kz l 25 1 h), fun h => F.f2 (kz l 25 2 h), fun h => F.f3 (kz l 25 3 h), fun h => F.f5 (kz l 25 5 h), fun h => F.f6 (kz l 25 6 h), fun h => F.f9 (kz l 25 9 h), fun h => F.f10 (kz l 25 10 h), fun h => F.f12 (kz l 25 12 h), fun h => F.f13 (kz l 25 13 h), fun h => F.f14 (kz l 25 14 h), fun h => F.f15 (kz l 25 15 h), fun h => F.f17 (kz l 25 17 h), fun h => F.f18 (kz l 25 18 h), fun h => F.f19 (kz l 25 19 h), fun h => F.f20 (kz l 25 20 h), fun h => F.f24 (kz l 25 24 h), fun h => F.s4 (kz l 25 4 h), fun h => F.s8 (kz l 25 8 h), fun h h2 => absurd hd23 (by rw [(kz l 25 23 h2)]; decide), fun h h2 => absurd hd23 (by rw [(kz l 25 23 h2)]; decide), fun h h2 => absurd hd23 (by rw [(kz l 25 23 h2)]; decide), fun h h2 => absurd hd23 (by rw [(kz l 25 23 h2)]; decide), fun h h2 => absurd hd23 (by rw [(kz l 25 23 h2)]; decide), fun h => hc23, fun h => have ⟨x0, x1⟩ := F.d7 (kz l 25 7 h); ⟨pMono x0, pMono x1⟩, fun h => have ⟨x0, x1⟩ := F.d11 (kz l 25 11 h); ⟨pMono x0, pMono x1⟩, fun h => pMono (F.d16 (kz l 25 16 h)), fun h => have ⟨x0, x1, x2, x3, x4, x5, x6⟩ := F.d21 (kz l 25 21 h); ⟨pMono x0, pMono x1, pMono x2, pMono x3, pMono x4, pMono x5, pMono x6⟩, fun h => pMono (F.d22 (kz l 25 22 h)), fun h => have ⟨x0, x1⟩ := F.d23 (kz l 25 23 h); ⟨pMono x0, pMono x1⟩, fun _ => ⟨pMono hd23, pMono hd24⟩, fun h => absurd hd23 (by rw [(kz l 25 23 h)]; decide), hbw, hbR, fun h => pAbs2 (by rw [F.sz]; decide) h, fun _ => hp1⟩⟩

theorem pRep {m i : Nat} : (Array.replicate m false).getD i false = false := by
  rw [Array.getD_eq_getD_getElem?, Array.getElem?_replicate]
  split <;> rfl

set_option maxRecDepth 100000 in
theorem pipe_region (t0 t1 t2 t4 t6 t7 t8 t9 t10 t11 t37 t38 : Value) (w : World) (d RB PB NB : Nat) (R0 : Obj) (PA : Option Addr) (pc : Nat) (pre : List Gn) (n : Gn) (IA SA A : Option Addr) (ic sc c : Nat) (S : Nat → Prop) (W1 : World) (Q : Exit → Act → World → Prop) (id : Nat)
    (hx : W1.heap[NB]? = some (.cells #[.int .i64 n.op, .slice IA n.ins.length ic, .slice SA n.side.length sc, .string ⟨n.text.toArray⟩, .int .i64 n.ty.kind, .slice A n.ty.args.length c, .int .i64 n.f0, .int .i64 n.f1, .int .i64 n.f2, .int .i64 n.f3, .int .i64 n.e, .int .i64 n.l, .int .i64 n.lt, .bool n.acc] 51 (0, 0))) (hPB : PB = w.heap.size + 1) (hRB : RB = w.heap.size) (hNB : W1.heap.size = NB + 1) (hPN : PB < NB) (hO : NsO W1 (w.heap.size + 2) d (.slice PA pre.length pc) pre) (hOl : ∀ g, (Value.slice PA pre.length pc).ownBlock = some g → g < NB) (hpl : pre.length ≤ 100)
    (hP : W1.heap[PB]? = some (.cells #[.slice PA pre.length pc] 27 (0, 0))) (hR : W1.heap[RB]? = some R0) (hbw : Below w.heap.size w W1)
    (HI7 : Hid (∀ W, Below W1.heap.size W1 W → IntsAt W S (.slice IA n.ins.length ic) n.ins)) (HI8 : Hid (∀ W, Below W1.heap.size W1 W → IntsAt W S (.slice SA n.side.length sc) n.side)) (HSM : Hid (SmN n))
    (HTY : Hid (∀ W, Below W1.heap.size W1 W → Calls Tryz.prog 28 #[.agg #[.int .i64 n.ty.kind, .slice A n.ty.args.length c]] W fun e w' => (∃ v', e = .returned v' ∧ TyAt w' (fun b => W.heap.size ≤ b) d v' n.ty) ∧ Below W.heap.size W w'))
    (v12 v13 v14 v15 v16 v17 v18 v19 v20 v21 v22 v23 v24 v25 v26 v27 v28 v29 v30 v31 v32 v33 v34 v35 v36 : Value)
    (he : ∀ u12 u13 u14 u15 u16 u17 u18 u19 u20 u21 u22 u23 u24 u25 u26 u27 u28 u29 u30 u31 u32 u33 u34 u35 u36 W GA gc, NsO W (w.heap.size + 2) d (.slice GA (pre.length + 1) gc) (pre ++ [n]) → Below w.heap.size w W → W.heap[RB]? = some R0 → W.heap[PB]? = some (.cells #[.slice GA (pre.length + 1) gc] 27 (0, 0)) → Q .normal (FrP t0 t1 t2 t4 t6 t7 t8 t9 t10 t11 t37 t38 PB NB u12 u13 u14 u15 u16 u17 u18 u19 u20 u21 u22 u23 u24 u25 u26 u27 u28 u29 u30 u31 u32 u33 u34 u35 u36) W) :
    (Code.region id opsP.toArray true).wp Tryz.prog Q (FrP t0 t1 t2 t4 t6 t7 t8 t9 t10 t11 t37 t38 PB NB v12 v13 v14 v15 v16 v17 v18 v19 v20 v21 v22 v23 v24 v25 v26 v27 v28 v29 v30 v31 v32 v33 v34 v35 v36) W1 := by
  refine region_inv (InvP t0 t1 t2 t4 t6 t7 t8 t9 t10 t11 t37 t38 w d RB PB NB R0 PA pc pre n IA SA A ic sc c W1) (by kernel_rfl) (by decide +kernel) ?_ (fun l a w ⟨_, _, _, _, _, _, _, _, _, _, _, _, _, _, _, _, _, _, _, _, _, _, _, _, _, _, F⟩ => F.sz) (inv_stepsP t0 t1 t2 t4 t6 t7 t8 t9 t10 t11 t37 t38 w d RB PB NB R0 PA pc pre n IA SA A ic sc c S W1 Q hx hPB hRB hNB hPN hO hOl hpl HI7 HI8 HSM HTY) ?_
  · refine ⟨_, _, _, _, _, _, _, _, _, _, _, _, _, _, _, _, _, _, _, _, _, _, _, _, _, rfl, ?_⟩
    have no : ∀ {i : Nat} {p : Prop}, (Array.replicate opsP.length false).getD i false = true → p := fun h => by rw [pRep] at h; cases h
    exact ⟨by simp [opsP], fun h => no h, fun h => no h, fun h => no h, fun h => no h, fun h => no h, fun h => no h, fun h => no h, fun h => no h, fun h => no h, fun h => no h, fun h => no h, fun h => no h, fun h => no h, fun h => no h, fun h => no h, fun h => no h, fun h => no h, fun h => no h, fun h => no h, fun h _ => no h, fun h _ => no h, fun h _ => no h, fun h _ => no h, fun h _ => no h, fun h => no h, fun h => no h, fun h => no h, fun h => no h, fun h => no h, fun h => no h, fun h => no h, fun h => no h, fun _ => (Below.refl _ _).drew, hbw.drew, hR, fun _ => hP, fun h => no h⟩
  · rintro l a W ⟨u12, u13, u14, u15, u16, u17, u18, u19, u20, u21, u22, u23, u24, u25, u26, u27, u28, u29, u30, u31, u32, u33, u34, u35, u36, rfl, F⟩ hall
    have hl : ∀ i, i < 26 → l.getD i false = true := fun i hi => hall i (by simpa [opsP] using hi)
    obtain ⟨GA, gc, rfl, h⟩ := F.c23 (hl 23 (by decide))
    exact he _ _ _ _ _ _ _ _ _ _ _ _ _ _ _ _ _ _ _ _ _ _ _ _ _ W GA gc h F.bw F.bR (F.p1 (hl 25 (by decide)))

end Go.Proofs.YtllnamhgnbdkmaaGreatDoor
namespace Go.Proofs.YtllnamhgnbdkmaaGreatDoor
open Go.RowKit Go.Shelf Go.Sort

set_option maxRecDepth 100000 in
set_option maxHeartbeats 8000000 in
theorem pipe_any (w : World) (S : Nat → Prop) (d : Nat) (v : Value) (l : List Gn) (h : GsAt w S d v l) (hl : l.length ≤ 100) (hs : ∀ n ∈ l, SmN n) :
    Calls Tryz.prog 12 #[v] w fun e w' => (∃ v', e = .returned (.agg #[v']) ∧ GsAt w' (fun b => w.heap.size ≤ b) d v' l) ∧ Below w.heap.size w w' := by
  obtain ⟨i0, hi, hq0, hq1, hq2⟩ := info_parts infoN
  obtain ⟨GA, gc, rfl⟩ := h.form
  have H := Lib.hid h
  have HS := Lib.hid hs
  have HA0 : Hid (Below w.heap.size w ((w.alloc (.cells #[.slice none 0 0] 27)).alloc (.cells #[.slice none 0 0] 27))) := Lib.hid (bl_al (bl_al (Below.refl _ _) _) _)
  clear h hs
  go_enter Tryz.func12, Tryz.ntmps12
  go_wp2_with (fail)
  go_loopw [8] (fun iv wr => ∃ (pre : List Gn) (PA : Option Addr) (pc : Nat), iv = .int .i64 (pre.length : Int) ∧ pre.length ≤ l.length ∧ Hid (pre = l.take pre.length) ∧ Hid (NsO wr (w.heap.size + 2) d (.slice PA pre.length pc) pre) ∧ Hid (Below w.heap.size w wr) ∧ Hid (wr.heap[w.heap.size]? = some (.cells #[.slice none 0 0] 27 (0, 0))) ∧ Hid (wr.heap[w.heap.size + 1]? = some (.cells #[.slice PA pre.length pc] 27 (0, 0)))) (fun iv _ => l.length - (intOf iv).toNat)
  case atStart => exact ⟨[], none, 0, rfl, Nat.zero_le _, Lib.hid rfl, Lib.hid (NsO.nil _ _ _), HA0, Lib.hid (alloc_old (heap_alloc_new w _)), Lib.hid (by simpa using heap_alloc_new (w.alloc _) _)⟩
  case round =>
    obtain ⟨pre, PA, pc, rfl, hj, HPRE, HO, HB, HR0, HP0⟩ := hrel
    clear HA0
    have p0 := cellN (i := 0) (x := .slice PA pre.length pc) HP0.out rfl
    have p1 := frozN (i := 0) HP0.out
    have p2 := cell_lt HP0.out
    by_cases hlt : pre.length < l.length
    · have hat := H.out.at hlt
      have htk : l.take (pre.length + 1) = pre ++ [l[pre.length]] := by rw [List.take_add_one, List.getElem?_eq_getElem hlt, ← HPRE.out]; rfl
      have HTK := Lib.hid htk
      have hsm := HS.out _ (List.getElem_mem hlt)
      have hjl : (pre.length : Int) < (l.length : Int) := by omega
      clear htk
      generalize l[pre.length] = n at *
      obtain ⟨b, o, rfl, hbl, hS, IA, SA, A, ic, sc, c, hN, a0, a1, a2, a3, a4, a5, a6, a7, a8, a9, a10, a11, a12, a13⟩ := hat
      have a0 := (HB.out.cell (p := ⟨b, o + pre.length * 14, none⟩) hbl).trans a0
      have a1 := (HB.out.cell (p := ⟨b, o + pre.length * 14 + 1, none⟩) hbl).trans a1
      have a2 := (HB.out.cell (p := ⟨b, o + pre.length * 14 + 2, none⟩) hbl).trans a2
      have a3 := (HB.out.cell (p := ⟨b, o + pre.length * 14 + 3, none⟩) hbl).trans a3
      have a4 := (HB.out.cell (p := ⟨b, o + pre.length * 14 + 4, none⟩) hbl).trans a4
      have a5 := (HB.out.cell (p := ⟨b, o + pre.length * 14 + 5, none⟩) hbl).trans a5
      have a6 := (HB.out.cell (p := ⟨b, o + pre.length * 14 + 6, none⟩) hbl).trans a6
      have a7 := (HB.out.cell (p := ⟨b, o + pre.length * 14 + 7, none⟩) hbl).trans a7
      have a8 := (HB.out.cell (p := ⟨b, o + pre.length * 14 + 8, none⟩) hbl).trans a8
      have a9 := (HB.out.cell (p := ⟨b, o + pre.length * 14 + 9, none⟩) hbl).trans a9
      have a10 := (HB.out.cell (p := ⟨b, o + pre.length * 14 + 10, none⟩) hbl).trans a10
      have a11 := (HB.out.cell (p := ⟨b, o + pre.length * 14 + 11, none⟩) hbl).trans a11
      have a12 := (HB.out.cell (p := ⟨b, o + pre.length * 14 + 12, none⟩) hbl).trans a12
      have a13 := (HB.out.cell (p := ⟨b, o + pre.length * 14 + 13, none⟩) hbl).trans a13
      have hgi : IntsAt w S (.slice IA n.ins.length ic) n.ins ∧ IntsAt w S (.slice SA n.side.length sc) n.side ∧ TyAt w S d (.agg #[.int .i64 n.ty.kind, .slice A n.ty.args.length c]) n.ty := by
        obtain ⟨_, _, _, _, _, _, e, h1, h2, h3⟩ := hN
        unfold Gn.val at e
        injection e with e
        simp only [Array.mk.injEq, List.cons.injEq, Value.slice.injEq, and_true, true_and] at e
        obtain ⟨⟨rfl, rfl⟩, ⟨rfl, rfl⟩, rfl, rfl⟩ := e
        exact ⟨h1, h2, h3⟩
      have HGI := Lib.hid hgi
      have HSM := Lib.hid hsm
      have hB1 : Below wr.heap.size wr (wr.alloc (.cells #[.int .i64 n.op, .slice IA n.ins.length ic, .slice SA n.side.length sc, .string ⟨n.text.toArray⟩, .int .i64 n.ty.kind, .slice A n.ty.args.length c, .int .i64 n.f0, .int .i64 n.f1, .int .i64 n.f2, .int .i64 n.f3, .int .i64 n.e, .int .i64 n.l, .int .i64 n.lt, .bool n.acc] 51)) := bl_al (Below.refl _ _) _
      have hx : (wr.alloc (.cells #[.int .i64 n.op, .slice IA n.ins.length ic, .slice SA n.side.length sc, .string ⟨n.text.toArray⟩, .int .i64 n.ty.kind, .slice A n.ty.args.length c, .int .i64 n.f0, .int .i64 n.f1, .int .i64 n.f2, .int .i64 n.f3, .int .i64 n.e, .int .i64 n.l, .int .i64 n.lt, .bool n.acc] 51)).heap[wr.heap.size]? = some (.cells #[.int .i64 n.op, .slice IA n.ins.length ic, .slice SA n.side.length sc, .string ⟨n.text.toArray⟩, .int .i64 n.ty.kind, .slice A n.ty.args.length c, .int .i64 n.f0, .int .i64 n.f1, .int .i64 n.f2, .int .i64 n.f3, .int .i64 n.e, .int .i64 n.l, .int .i64 n.lt, .bool n.acc] 51 (0, 0)) := heap_alloc_new wr _
      have hbr := HB.out.size
      clear hS hN hsm hgi
      go_upto_region 5 with (fail)
      clear a0 a1 a2 a3 a4 a5 a6 a7 a8 a9 a10 a11 a12 a13
      have hP1 := bl_blk hB1 HP0.out
      have hB1w := HB.out.trans (hB1.mono hbr)
      have hs1 : (wr.alloc (.cells #[.int .i64 n.op, .slice IA n.ins.length ic, .slice SA n.side.length sc, .string ⟨n.text.toArray⟩, .int .i64 n.ty.kind, .slice A n.ty.args.length c, .int .i64 n.f0, .int .i64 n.f1, .int .i64 n.f2, .int .i64 n.f3, .int .i64 n.e, .int .i64 n.l, .int .i64 n.lt, .bool n.acc] 51)).heap.size = wr.heap.size + 1 := by simp
      generalize wr.alloc (.cells #[.int .i64 n.op, .slice IA n.ins.length ic, .slice SA n.side.length sc, .string ⟨n.text.toArray⟩, .int .i64 n.ty.kind, .slice A n.ty.args.length c, .int .i64 n.f0, .int .i64 n.f1, .int .i64 n.f2, .int .i64 n.f3, .int .i64 n.e, .int .i64 n.l, .int .i64 n.lt, .bool n.acc] 51) = W1 at *
      have HB1 := Lib.hid hB1
      have HB1w := Lib.hid hB1w
      have HX := Lib.hid hx
      have HPX := Lib.hid hP1
      have p0 := cellN (i := 0) (x := .slice PA pre.length pc) hP1 rfl
      have p1 := frozN (i := 0) hP1
      have p2 := cell_lt hP1
      have bl := cell_lt hx
      have b0 := cellN (i := 0) hx rfl
      have b1 := cellN (i := 1) hx rfl
      have b2 := cellN (i := 2) hx rfl
      have b3 := cellN (i := 3) hx rfl
      have b4 := cellN (i := 4) hx rfl
      have b5 := cellN (i := 5) hx rfl
      have b6 := cellN (i := 6) hx rfl
      have b7 := cellN (i := 7) hx rfl
      have b8 := cellN (i := 8) hx rfl
      have b9 := cellN (i := 9) hx rfl
      have b10 := cellN (i := 10) hx rfl
      have b11 := cellN (i := 11) hx rfl
      have b12 := cellN (i := 12) hx rfl
      have b13 := cellN (i := 13) hx rfl
      clear hB1 hx hP1 hB1w
      have HI7 : Hid (∀ W, Below W1.heap.size W1 W → IntsAt W S (.slice IA n.ins.length ic) n.ins) := Lib.hid fun W hb => (HGI.out.1.below HB1w.out).move fun b hb' hl => ⟨hb', Nat.lt_of_lt_of_le hl hb.size, fun o => World.cell?_of_block (hb.block b hl)⟩
      have HI8 : Hid (∀ W, Below W1.heap.size W1 W → IntsAt W S (.slice SA n.side.length sc) n.side) := Lib.hid fun W hb => (HGI.out.2.1.below HB1w.out).move fun b hb' hl => ⟨hb', Nat.lt_of_lt_of_le hl hb.size, fun o => World.cell?_of_block (hb.block b hl)⟩
      have HTY : Hid (∀ W, Below W1.heap.size W1 W → Calls Tryz.prog 28 #[.agg #[.int .i64 n.ty.kind, .slice A n.ty.args.length c]] W fun e w' => (∃ v', e = .returned v' ∧ TyAt w' (fun b => W.heap.size ≤ b) d v' n.ty) ∧ Below W.heap.size W w') := Lib.hid fun W hb => Lw5.typ_any d 30 S _ n.ty W HSM.out.ty (TyAt.move (fun b hb' hl => ⟨hb', fun _ => World.cell?_of_block ((HB1w.out.trans (hb.mono HB1w.out.size)).block b hl)⟩) _ _ _ HGI.out.2.2)
      have hO1 := HO.out.keep HB1.out
      refine pipe_region _ _ _ _ _ _ _ _ _ _ _ _ w d w.heap.size (w.heap.size + 1) wr.heap.size _ PA pc pre n IA SA A ic sc c S W1 _ 5 HX.out rfl rfl hs1 (cell_lt HP0.out) hO1 (fun g hg => (HO.out.low hg).2) (by omega) HPX.out (bl_blk HB1.out HR0.out) HB1w.out HI7 HI8 HSM HTY _ _ _ _ _ _ _ _ _ _ _ _ _ _ _ _ _ _ _ _ _ _ _ _ _ ?_
      intro u12 u13 u14 u15 u16 u17 u18 u19 u20 u21 u22 u23 u24 u25 u26 u27 u28 u29 u30 u31 u32 u33 u34 u35 u36 W GA gc hns hbw hR9 hP9
      have hln : (pre ++ [n]).length = pre.length + 1 := by simp
      have H1 : Hid (pre ++ [n] = l.take (pre ++ [n]).length) := Lib.hid (by rw [hln]; exact HTK.out.symm)
      have H2 : Hid (NsO W (w.heap.size + 2) d (.slice GA (pre ++ [n]).length gc) (pre ++ [n])) := Lib.hid (by rw [hln]; exact hns)
      have H3 := Lib.hid hbw
      have H4 := Lib.hid hR9
      have H5 : Hid (W.heap[w.heap.size + 1]? = some (.cells #[.slice GA (pre ++ [n]).length gc] 27 (0, 0))) := Lib.hid (by rw [hln]; exact hP9)
      unfold FrP
      clear hns hbw hR9 hP9 hO1
      go_wp2_with (fail)
      go_roundw
      case rel => exact ⟨pre ++ [n], GA, gc, by rw [hln]; go_num, by omega, H1, H2, H3, H4, H5⟩
      case measure => simp [intOf]; omega
    · have hpl : pre.length = l.length := by omega
      have hpe : pre = l := by rw [HPRE.out, hpl, List.take_length]
      subst hpe
      have hjl : ¬ ((pre.length : Int) < (pre.length : Int)) := by omega
      have r0 := cellN (i := 0) HR0.out rfl
      have r1 := frozN (i := 0) HR0.out
      have r2 := cell_lt HR0.out
      go_wp2_with (fail)
      refine bodyPost_ret (v := .agg #[.slice PA pre.length pc]) (by simp [results, Tryz.results12, go_sem, r0, r1, r2, p0]) rfl ?_
      refine ⟨⟨_, rfl, (HO.out.far (p := w.heap.size) (by omega)).gs.move fun b hb hl => ⟨by omega, hl, fun _ => rfl⟩⟩, HB.out.setCell (p := ⟨w.heap.size, 0, none⟩) (Nat.le_refl _) _⟩

end Go.Proofs.YtllnamhgnbdkmaaGreatDoor
