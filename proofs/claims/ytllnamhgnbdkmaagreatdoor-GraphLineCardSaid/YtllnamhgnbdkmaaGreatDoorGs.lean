/-
Stage 11: the document's Read: a grouping's return, whose order is open.
-/
import Derived.Test.YtllnamhgnbdkmaaGreatDoorGh
import Derived.Test.YtllnamhgnbdkmaaGreatDoorYh
set_option linter.unusedVariables false
set_option linter.unusedSimpArgs false
namespace Go.Proofs.YtllnamhgnbdkmaaGreatDoor
open Go.RowKit Go.Shelf Go.Sort
section
variable {P : Program} {ops : Array Oper} {Q : Exit → Act → World → Prop} {md : Region.Mode}
theorem all_done2 (l : Array Bool) (hz : l.size = ops.size) (hac : ∀ (j : Nat) (o : Oper), ops[j]? = some o → ∀ e ∈ o.after, Region.binds md e = true → e.on < j) (h : Region.ready md ops l = []) : ∀ i, i < ops.size → l.getD i false = true := by
  intro i
  induction i using Nat.strongRecOn with
  | ind i ih =>
    intro hi
    by_cases hd : l.getD i true = false
    · exfalso
      have : i ∈ Region.ready md ops l := by
        rw [mem_ready]
        refine ⟨hd, ops[i], Array.getElem?_eq_getElem hi, fun e he hb => ?_⟩
        have := hac i ops[i] (Array.getElem?_eq_getElem hi) e he hb
        exact ih _ this (by omega)
      rw [h] at this
      cases this
    · have hi' : i < l.size := by omega
      rw [Array.getD_eq_getD_getElem?, Array.getElem?_eq_getElem hi'] at hd ⊢
      simpa using hd
theorem wpAny_inv2 (I : Array Bool → Act → World → Prop) (hz : ∀ l a w, I l a w → l.size = ops.size)
    (hs : ∀ l a w i o, I l a w → ops[i]? = some o → l.getD i true = false → (∀ e ∈ o.after, Region.binds md e = true → l.getD e.on false = true) → wpOp P ops Q i (fun a' w' => I (l.setIfInBounds i true) a' w') a w)
    (he : ∀ l a w, I l a w → (∀ i, i < ops.size → l.getD i false = true) → Q .normal a w)
    (hac : ∀ (j : Nat) (o : Oper), ops[j]? = some o → ∀ e ∈ o.after, Region.binds md e = true → e.on < j) :
    ∀ (fuel : Nat) l a w, I l a w → undone l ≤ fuel → wpAny P md ops Q fuel l a w := by
  intro fuel
  induction fuel with
  | zero =>
    intro l a w hI hu
    have hr : Region.ready md ops l = [] := by
      cases hc : Region.ready md ops l with
      | nil => rfl
      | cons j r =>
        have : j ∈ Region.ready md ops l := by rw [hc]; exact List.mem_cons_self
        have := (mem_ready.1 this).1
        rw [done_of_none l (by omega) j] at this
        cases this
    exact ⟨hr, he l a w hI (all_done2 l (hz l a w hI) hac hr)⟩
  | succ fuel ih =>
    intro l a w hI hu
    refine ⟨fun hr => he l a w hI (all_done2 l (hz l a w hI) hac hr), fun i hi => ?_⟩
    obtain ⟨hd, o, ho, hall⟩ := mem_ready.1 hi
    have := undone_set l i hd
    exact wpOp_mono (fun a' w' h' => ih _ a' w' h' (by omega)) (hs l a w i o hI ho hd hall)
def orderB (L : List Oper) : Bool := (List.range L.length).all fun j => match L[j]? with | some o => o.after.all (fun e => !Region.binds .any e || decide (e.on < j)) | none => true
theorem order_spec {L : List Oper} (h : orderB L = true) {j : Nat} {o : Oper} (ho : L[j]? = some o) : ∀ e ∈ o.after, Region.binds .any e = true → e.on < j := by
  unfold orderB at h
  rw [List.all_eq_true] at h
  obtain ⟨hj, _⟩ := List.getElem?_eq_some_iff.1 ho
  have := h j (List.mem_range.2 hj)
  rw [ho] at this
  simp at this
  intro e he hb
  obtain ⟨k, hk, rfl⟩ := Array.mem_iff_getElem.1 he
  have := this k hk
  rw [hb] at this
  simpa using this
theorem region_guard {id : Nat} {a : Act} {w : World} {L : List Oper} (I : Array Bool → Act → World → Prop) (hm : P.follows .mixedOrders = true) (hp : orderB L = true)
    (h0 : I (Array.replicate L.length false) a w.drew)
    (hz : ∀ l a w, I l a w → l.size = L.length)
    (hs : each (fun i o => ∀ l a w, I l a w → l.getD i true = false → (∀ e ∈ o.after, Region.binds .any e = true → l.getD e.on false = true) →
      ∀ K : Act → World → Prop, (∀ a' w', I (l.setIfInBounds i true) a' w' → K a' w') → if Region.wanted o (yielded L.toArray a.tmps) = true then o.wp P a w K Q else K (a.put o.dst undef) w) 0 L)
    (he : ∀ l a w, I l a w → (∀ i, i < L.length → l.getD i false = true) → Q .normal a w) : (Code.region id L.toArray true).wp P Q a w := by
  refine wp_region_any hm (wpAny_inv2 I (fun l a w h => by simpa using hz l a w h) (fun l a w i o hI ho hd hall => ?_) (fun l a w hI h => he l a w hI (by simpa using h)) (fun j o ho => order_spec hp (by simpa using ho)) _ _ _ _ (by simpa using h0) ?_)
  · have ho' : L[i]? = some o := by simpa using ho
    have h := each_get L 0 hs i o ho'
    rw [Nat.zero_add] at h
    have h2 := h l a w hI hd hall _ (fun _ _ h => h)
    unfold wpOp
    rw [ho]
    simp only
    split
    · rename_i hw
      rw [if_pos hw] at h2
      exact .inl h2
    · rename_i hw
      rw [if_neg hw] at h2
      exact h2
  · unfold undone
    have := List.length_filter_le (fun b : Bool => !b) (Array.replicate L.toArray.size false).toList
    simp at this ⊢
end
def opsG : List Oper := [{ dst := some 207, op := Op.load 51 (Operand.tmp 22), type := 51, pos := "ref.go:245", after := #[], guard := none }, { dst := some 208, op := Op.move (Operand.tmp 32), type := 4, pos := "ref.go:245", after := #[], guard := none }, { dst := some 209, op := Op.move (Operand.tmp 208), type := 4, pos := "ref.go:245", after := #[{ on := 1, ground := Ground.data }], guard := none }, { dst := some 210, op := Op.move (Operand.tmp 30), type := 9, pos := "ref.go:245", after := #[{ on := 2, ground := Ground.guard }], guard := some (2, true) }, { dst := some 211, op := Op.binOp BinOp.eql 9 (Operand.tmp 210) (Operand.const (Value.string { data := #[97, 99, 99] })) 9, type := 4, pos := "ref.go:245", after := #[{ on := 3, ground := Ground.data }, { on := 2, ground := Ground.guard }], guard := some (2, true) }, { dst := some 212, op := Op.move (Operand.tmp 211), type := 4, pos := "ref.go:245", after := #[{ on := 4, ground := Ground.data }, { on := 2, ground := Ground.chain }, { on := 2, ground := Ground.guard }], guard := some (2, true) }, { dst := some 213, op := Op.move (Operand.tmp 30), type := 9, pos := "ref.go:245", after := #[{ on := 5, ground := Ground.guard }], guard := some (5, false) }, { dst := some 214, op := Op.binOp BinOp.eql 9 (Operand.tmp 213) (Operand.const (Value.string { data := #[100, 105, 115] })) 9, type := 4, pos := "ref.go:245", after := #[{ on := 6, ground := Ground.data }, { on := 5, ground := Ground.guard }], guard := some (5, false) }, { dst := some 215, op := Op.pick (Operand.tmp 212) (Operand.const (Value.bool true)) (Operand.tmp 214), type := 4, pos := "ref.go:245", after := #[{ on := 5, ground := Ground.data }, { on := 7, ground := Ground.data }, { on := 2, ground := Ground.guard }], guard := some (2, true) }, { dst := some 216, op := Op.pick (Operand.tmp 209) (Operand.tmp 215) (Operand.const (Value.bool false)), type := 4, pos := "ref.go:245", after := #[{ on := 2, ground := Ground.data }, { on := 8, ground := Ground.data }], guard := none }, { dst := some 217, op := Op.move (Operand.tmp 216), type := 4, pos := "ref.go:245", after := #[{ on := 9, ground := Ground.data }, { on := 5, ground := Ground.chain }], guard := none }, { dst := some 218, op := Op.move (Operand.tmp 31), type := 9, pos := "ref.go:245", after := #[{ on := 10, ground := Ground.guard }], guard := some (10, true) }, { dst := some 219, op := Op.call { callee := Callee.value (Operand.func 65), args := #[Operand.tmp 218], argTypes := #[9] }, type := 4, pos := "ref.go:245", after := #[{ on := 11, ground := Ground.data }, { on := 10, ground := Ground.chain }, { on := 10, ground := Ground.guard }], guard := some (10, true) }, { dst := some 220, op := Op.pick (Operand.tmp 217) (Operand.tmp 219) (Operand.const (Value.bool false)), type := 4, pos := "ref.go:245", after := #[{ on := 10, ground := Ground.data }, { on := 12, ground := Ground.data }, { on := 14, ground := Ground.gcOnly Departure.lateStores }], guard := none }, { dst := none, op := Op.store 51 (Operand.tmp 2) (Operand.tmp 207), type := 0, pos := "ref.go:245", after := #[{ on := 0, ground := Ground.data }, { on := 12, ground := Ground.chain }, { on := 0, ground := Ground.phase }, { on := 1, ground := Ground.textOnly Departure.lateStores }, { on := 2, ground := Ground.textOnly Departure.lateStores }, { on := 3, ground := Ground.textOnly Departure.lateStores }, { on := 4, ground := Ground.textOnly Departure.lateStores }, { on := 5, ground := Ground.textOnly Departure.lateStores }, { on := 6, ground := Ground.textOnly Departure.lateStores }, { on := 7, ground := Ground.textOnly Departure.lateStores }, { on := 8, ground := Ground.textOnly Departure.lateStores }, { on := 9, ground := Ground.textOnly Departure.lateStores }, { on := 10, ground := Ground.textOnly Departure.lateStores }, { on := 11, ground := Ground.textOnly Departure.lateStores }, { on := 12, ground := Ground.textOnly Departure.lateStoresUnsure }, { on := 13, ground := Ground.textOnly Departure.lateStores }], guard := none }, { dst := some 3, op := Op.assign (Operand.tmp 220), type := 4, pos := "ref.go:245", after := #[{ on := 13, ground := Ground.data }, { on := 14, ground := Ground.chain }, { on := 0, ground := Ground.phase }, { on := 1, ground := Ground.phase }, { on := 2, ground := Ground.phase }, { on := 3, ground := Ground.phase }, { on := 4, ground := Ground.phase }, { on := 5, ground := Ground.phase }, { on := 6, ground := Ground.phase }, { on := 7, ground := Ground.phase }, { on := 8, ground := Ground.phase }, { on := 9, ground := Ground.phase }, { on := 10, ground := Ground.phase }, { on := 11, ground := Ground.phase }, { on := 12, ground := Ground.phase }, { on := 13, ground := Ground.phase }, { on := 14, ground := Ground.phase }], guard := none }]
def gd (j : Nat) : Nat := if j ≤ 13 then 207 + j else 3
structure GI (a0 : Act) (w1 st : World) (val : Nat → Value) (l : Array Bool) (a : Act) (w : World) : Prop where
  sz : l.size = 16
  az : a.tmps.size = a0.tmps.size
  df : a.defers = a0.defers
  lo : ∀ s, s < 207 → s ≠ 3 → a.tmps[s]? = a0.tmps[s]?
  vl : ∀ j, j < 16 → j ≠ 14 → l.getD j false = true → a.tmps[gd j]? = some (val j)
  wd : w = if l.getD 14 false = true then st else w1
theorem gd_lt {j : Nat} (hj : j < 16) : gd j < 221 := by unfold gd; split <;> omega
theorem gd_ne {i j : Nat} (hi : i < 16) (hj : j < 16) (h14 : i ≠ 14) (h14' : j ≠ 14) (h : i ≠ j) : gd i ≠ gd j := by
  unfold gd
  split <;> split <;> omega
theorem GI.put {a0 : Act} {w1 st : World} {val : Nat → Value} {l : Array Bool} {a : Act} {w : World} (h : GI a0 w1 st val l a w) (hs : 221 ≤ a0.tmps.size) {j : Nat} (hj : j < 16) (h14 : j ≠ 14) {v : Value} (hv : v = val j) : GI a0 w1 st val (l.setIfInBounds j true) (a.put (some (gd j)) v) w := by
  have hg := gd_lt hj
  refine ⟨by rw [Array.size_setIfInBounds]; exact h.sz, by simp only [Act.put, Array.size_setIfInBounds]; exact h.az, h.df, fun s hs1 hs2 => ?_, fun i hi hi14 hl => ?_, by rw [done_set_ne h14]; exact h.wd⟩
  · have hne : gd j ≠ s := by unfold gd; split <;> omega
    show (a.tmps.setIfInBounds (gd j) v)[s]? = _
    rw [Array.getElem?_setIfInBounds_ne hne]
    exact h.lo s hs1 hs2
  · show (a.tmps.setIfInBounds (gd j) v)[gd i]? = _
    by_cases e : i = j
    · subst e
      rw [Array.getElem?_setIfInBounds_self_of_lt (by rw [h.az]; omega), hv]
    · rw [Array.getElem?_setIfInBounds_ne (gd_ne hj hi h14 hi14 (Ne.symm e))]
      rw [done_set_ne (Ne.symm e)] at hl
      exact h.vl i hi hi14 hl
theorem GI.store {a0 : Act} {w1 st : World} {val : Nat → Value} {l : Array Bool} {a : Act} {w : World} (h : GI a0 w1 st val l a w) : GI a0 w1 st val (l.setIfInBounds 14 true) a st := by
  refine ⟨by rw [Array.size_setIfInBounds]; exact h.sz, h.az, h.df, h.lo, fun i hi hi14 hl => ?_, ?_⟩
  · rw [done_set_ne (Ne.symm hi14)] at hl
    exact h.vl i hi hi14 hl
  · have : (l.setIfInBounds 14 true).getD 14 false = true := by
      rw [Array.getD_eq_getD_getElem?, Array.getElem?_setIfInBounds_self_of_lt (by rw [h.sz]; omega)]
      rfl
    rw [if_pos this]
theorem wanted_y {o : Oper} {L : List Oper} {t : Array Value} {j : Nat} {b b' : Bool} (hg : o.guard = some (j, b)) (hy : yielded L.toArray t j = some b') : Region.wanted o (yielded L.toArray t) = (b' == b) := by
  unfold Region.wanted
  rw [hg]
  simp [hy]
theorem wanted_n {o : Oper} {y : Nat → Option Bool} (hg : o.guard = none) : Region.wanted o y = true := by
  unfold Region.wanted
  rw [hg]
theorem yield_G {G : List Oper} (hG : G = opsG) {t : Array Value} {j s : Nat} {b : Bool} (hd : ((opsG.toArray[j]?).bind (·.dst)) = some s) (h : t[s]? = some (.bool b)) : yielded G.toArray t j = some b := by
  subst hG
  unfold yielded
  rw [hd]
  simp [h]
def valG (N : Value) (how text : List UInt8) (ac tx : Bool) : Nat → Value
  | 0 => N
  | 1 => .bool true
  | 2 => .bool true
  | 3 => .string ⟨how.toArray⟩
  | 4 => .bool ac
  | 5 => .bool ac
  | 6 => if ac = true then undef else .string ⟨how.toArray⟩
  | 7 => if ac = true then undef else .bool true
  | 8 => .bool true
  | 9 => .bool true
  | 10 => .bool true
  | 11 => .string ⟨text.toArray⟩
  | 12 => .bool tx
  | 13 => .bool tx
  | _ => .bool tx
set_option maxRecDepth 100000 in
set_option maxHeartbeats 4000000 in
theorem steps_G (G : List Oper) (hG : G = opsG) (a0 : Act) (W1 : World) (nb R : Nat) (A : Option Addr) (c : Nat) (how text : List UInt8) (x0 x1 x2 : Int) (ac tx : Bool) (Q : Exit → Act → World → Prop) (hs : 221 ≤ a0.tmps.size)
    (n2 : a0.tmps[2]? = some (.pointer (some ⟨R, 0, none⟩))) (n22 : a0.tmps[22]? = some (.pointer (some ⟨nb, 0, none⟩))) (n30 : a0.tmps[30]? = some (.string ⟨how.toArray⟩)) (n31 : a0.tmps[31]? = some (.string ⟨text.toArray⟩)) (n32 : a0.tmps[32]? = some (.bool true))
    (hac : (how == [97, 99, 99]) = ac) (hdi : ac = false → (how == [100, 105, 115]) = true) (hne : nb ≠ R) (hbn : nb < W1.heap.size)
    (b0 : W1.cell? ⟨nb, 0, none⟩ = some (.int .i64 4)) (b1 : W1.cell? ⟨nb, 1, none⟩ = some (.slice A 1 c)) (b2 : W1.cell? ⟨nb, 2, none⟩ = some (.slice none 0 0)) (b3 : W1.cell? ⟨nb, 3, none⟩ = some (.string ⟨text.toArray⟩)) (b4 : W1.cell? ⟨nb, 4, none⟩ = some (.int .i64 0)) (b5 : W1.cell? ⟨nb, 5, none⟩ = some (.slice none 0 0)) (b6 : W1.cell? ⟨nb, 6, none⟩ = some (.int .i64 0)) (b7 : W1.cell? ⟨nb, 7, none⟩ = some (.int .i64 0)) (b8 : W1.cell? ⟨nb, 8, none⟩ = some (.int .i64 0)) (b9 : W1.cell? ⟨nb, 9, none⟩ = some (.int .i64 0)) (b10 : W1.cell? ⟨nb, 10, none⟩ = some (.int .i64 x0)) (b11 : W1.cell? ⟨nb, 11, none⟩ = some (.int .i64 x1)) (b12 : W1.cell? ⟨nb, 12, none⟩ = some (.int .i64 x2)) (b13 : W1.cell? ⟨nb, 13, none⟩ = some (.bool ac))
    (hR : W1.heap[R]? = some (.cells #[.int .i64 0, .slice none 0 0, .slice none 0 0, .string ⟨#[]⟩, .int .i64 0, .slice none 0 0, .int .i64 0, .int .i64 0, .int .i64 0, .int .i64 0, .int .i64 0, .int .i64 0, .int .i64 0, .bool false] 51 (0, 0)))
    (HTX : Hid (∀ W, Calls Tryz.prog 65 #[.string ⟨text.toArray⟩] W fun e w' => e = .returned (.bool tx) ∧ W = w')) :
    each (fun i o => ∀ l a w, GI a0 W1 ((((((((((((((W1.setCell ⟨R, 0, none⟩ (.int .i64 4)).setCell ⟨R, 1, none⟩ (.slice A 1 c)).setCell ⟨R, 2, none⟩ (.slice none 0 0)).setCell ⟨R, 3, none⟩ (.string ⟨text.toArray⟩)).setCell ⟨R, 4, none⟩ (.int .i64 0)).setCell ⟨R, 5, none⟩ (.slice none 0 0)).setCell ⟨R, 6, none⟩ (.int .i64 0)).setCell ⟨R, 7, none⟩ (.int .i64 0)).setCell ⟨R, 8, none⟩ (.int .i64 0)).setCell ⟨R, 9, none⟩ (.int .i64 0)).setCell ⟨R, 10, none⟩ (.int .i64 x0)).setCell ⟨R, 11, none⟩ (.int .i64 x1)).setCell ⟨R, 12, none⟩ (.int .i64 x2)).setCell ⟨R, 13, none⟩ (.bool ac)) (valG (.agg #[.int .i64 4, .slice A 1 c, .slice none 0 0, .string ⟨text.toArray⟩, .int .i64 0, .slice none 0 0, .int .i64 0, .int .i64 0, .int .i64 0, .int .i64 0, .int .i64 x0, .int .i64 x1, .int .i64 x2, .bool ac]) how text ac tx) l a w → l.getD i true = false → (∀ e ∈ o.after, Region.binds .any e = true → l.getD e.on false = true) →
      ∀ K : Act → World → Prop, (∀ a' w', GI a0 W1 ((((((((((((((W1.setCell ⟨R, 0, none⟩ (.int .i64 4)).setCell ⟨R, 1, none⟩ (.slice A 1 c)).setCell ⟨R, 2, none⟩ (.slice none 0 0)).setCell ⟨R, 3, none⟩ (.string ⟨text.toArray⟩)).setCell ⟨R, 4, none⟩ (.int .i64 0)).setCell ⟨R, 5, none⟩ (.slice none 0 0)).setCell ⟨R, 6, none⟩ (.int .i64 0)).setCell ⟨R, 7, none⟩ (.int .i64 0)).setCell ⟨R, 8, none⟩ (.int .i64 0)).setCell ⟨R, 9, none⟩ (.int .i64 0)).setCell ⟨R, 10, none⟩ (.int .i64 x0)).setCell ⟨R, 11, none⟩ (.int .i64 x1)).setCell ⟨R, 12, none⟩ (.int .i64 x2)).setCell ⟨R, 13, none⟩ (.bool ac)) (valG (.agg #[.int .i64 4, .slice A 1 c, .slice none 0 0, .string ⟨text.toArray⟩, .int .i64 0, .slice none 0 0, .int .i64 0, .int .i64 0, .int .i64 0, .int .i64 0, .int .i64 x0, .int .i64 x1, .int .i64 x2, .bool ac]) how text ac tx) (l.setIfInBounds i true) a' w' → K a' w') → if Region.wanted o (yielded G.toArray a.tmps) = true then o.wp Tryz.prog a w K Q else K (a.put o.dst undef) w) 0 opsG := by
  unfold opsG
  refine ⟨?_, ?_, ?_, ?_, ?_, ?_, ?_, ?_, ?_, ?_, ?_, ?_, ?_, ?_, ?_, ?_, trivial⟩
  · intro l a w hI hn hall K hK
    rw [if_pos (wanted_n rfl)]
    have hw : w.heap[nb]? = W1.heap[nb]? := by
      rw [hI.wd]
      split
      · exact node_told_far hne
      · rfl
    have e0 : w.cell? ⟨nb, 0, none⟩ = some (.int .i64 4) := (World.cell?_of_block (a := ⟨nb, 0, none⟩) hw).trans b0
    have e1 : w.cell? ⟨nb, 1, none⟩ = some (.slice A 1 c) := (World.cell?_of_block (a := ⟨nb, 1, none⟩) hw).trans b1
    have e2 : w.cell? ⟨nb, 2, none⟩ = some (.slice none 0 0) := (World.cell?_of_block (a := ⟨nb, 2, none⟩) hw).trans b2
    have e3 : w.cell? ⟨nb, 3, none⟩ = some (.string ⟨text.toArray⟩) := (World.cell?_of_block (a := ⟨nb, 3, none⟩) hw).trans b3
    have e4 : w.cell? ⟨nb, 4, none⟩ = some (.int .i64 0) := (World.cell?_of_block (a := ⟨nb, 4, none⟩) hw).trans b4
    have e5 : w.cell? ⟨nb, 5, none⟩ = some (.slice none 0 0) := (World.cell?_of_block (a := ⟨nb, 5, none⟩) hw).trans b5
    have e6 : w.cell? ⟨nb, 6, none⟩ = some (.int .i64 0) := (World.cell?_of_block (a := ⟨nb, 6, none⟩) hw).trans b6
    have e7 : w.cell? ⟨nb, 7, none⟩ = some (.int .i64 0) := (World.cell?_of_block (a := ⟨nb, 7, none⟩) hw).trans b7
    have e8 : w.cell? ⟨nb, 8, none⟩ = some (.int .i64 0) := (World.cell?_of_block (a := ⟨nb, 8, none⟩) hw).trans b8
    have e9 : w.cell? ⟨nb, 9, none⟩ = some (.int .i64 0) := (World.cell?_of_block (a := ⟨nb, 9, none⟩) hw).trans b9
    have e10 : w.cell? ⟨nb, 10, none⟩ = some (.int .i64 x0) := (World.cell?_of_block (a := ⟨nb, 10, none⟩) hw).trans b10
    have e11 : w.cell? ⟨nb, 11, none⟩ = some (.int .i64 x1) := (World.cell?_of_block (a := ⟨nb, 11, none⟩) hw).trans b11
    have e12 : w.cell? ⟨nb, 12, none⟩ = some (.int .i64 x2) := (World.cell?_of_block (a := ⟨nb, 12, none⟩) hw).trans b12
    have e13 : w.cell? ⟨nb, 13, none⟩ = some (.bool ac) := (World.cell?_of_block (a := ⟨nb, 13, none⟩) hw).trans b13
    have m22 : a.tmps[22]? = some (.pointer (some ⟨nb, 0, none⟩)) := (hI.lo 22 (by decide) (by decide)).trans n22
    have HI := Lib.hid hI
    have HK := Lib.hid hK
    clear hI hK hn hall n2 n22 n30 n31 n32 hdi hR hne b0 b1 b2 b3 b4 b5 b6 b7 b8 b9 b10 b11 b12 b13 hw hac
    go_simp
    exact HK.out _ _ (HI.out.put hs (j := 0) (by decide) (by decide) rfl)
  · intro l a w hI hn hall K hK
    rw [if_pos (wanted_n rfl)]
    have m32 : a.tmps[32]? = some (.bool true) := (hI.lo 32 (by decide) (by decide)).trans n32
    have HI := Lib.hid hI
    have HK := Lib.hid hK
    clear hI hK hn hall n2 n22 n30 n31 n32 hac hdi hR hne b0 b1 b2 b3 b4 b5 b6 b7 b8 b9 b10 b11 b12 b13
    go_simp
    exact HK.out _ _ (HI.out.put hs (j := 1) (by decide) (by decide) rfl)
  · intro l a w hI hn hall K hK
    rw [if_pos (wanted_n rfl)]
    have m208 : a.tmps[208]? = some (.bool true) := hI.vl 1 (by decide) (by decide) (hall { on := 1, ground := Ground.data } (by simp) rfl)
    have HI := Lib.hid hI
    have HK := Lib.hid hK
    clear hI hK hn hall n2 n22 n30 n31 n32 hac hdi hR hne b0 b1 b2 b3 b4 b5 b6 b7 b8 b9 b10 b11 b12 b13
    go_simp
    exact HK.out _ _ (HI.out.put hs (j := 2) (by decide) (by decide) rfl)
  · intro l a w hI hn hall K hK
    rw [if_pos (by rw [wanted_y (L := G) (j := 2) (b := true) (b' := true) rfl (yield_G hG (s := 209) rfl (hI.vl 2 (by decide) (by decide) (hall { on := 2, ground := Ground.guard } (by simp) rfl)))]; rfl)]
    have m30 : a.tmps[30]? = some (.string ⟨how.toArray⟩) := (hI.lo 30 (by decide) (by decide)).trans n30
    have HI := Lib.hid hI
    have HK := Lib.hid hK
    clear hI hK hn hall n2 n22 n30 n31 n32 hac hdi hR hne b0 b1 b2 b3 b4 b5 b6 b7 b8 b9 b10 b11 b12 b13
    go_simp
    exact HK.out _ _ (HI.out.put hs (j := 3) (by decide) (by decide) rfl)
  · intro l a w hI hn hall K hK
    rw [if_pos (by rw [wanted_y (L := G) (j := 2) (b := true) (b' := true) rfl (yield_G hG (s := 209) rfl (hI.vl 2 (by decide) (by decide) (hall { on := 2, ground := Ground.guard } (by simp) rfl)))]; rfl)]
    have m210 : a.tmps[210]? = some (.string ⟨how.toArray⟩) := hI.vl 3 (by decide) (by decide) (hall { on := 3, ground := Ground.data } (by simp) rfl)
    have HI := Lib.hid hI
    have HK := Lib.hid hK
    clear hI hK hn hall n2 n22 n30 n31 n32 hdi hR hne b0 b1 b2 b3 b4 b5 b6 b7 b8 b9 b10 b11 b12 b13
    go_simp
    exact HK.out _ _ (HI.out.put hs (j := 4) (by decide) (by decide) (by rw [← hac]; rfl))
  · intro l a w hI hn hall K hK
    rw [if_pos (by rw [wanted_y (L := G) (j := 2) (b := true) (b' := true) rfl (yield_G hG (s := 209) rfl (hI.vl 2 (by decide) (by decide) (hall { on := 2, ground := Ground.guard } (by simp) rfl)))]; rfl)]
    have m211 : a.tmps[211]? = some (.bool ac) := hI.vl 4 (by decide) (by decide) (hall { on := 4, ground := Ground.data } (by simp) rfl)
    have HI := Lib.hid hI
    have HK := Lib.hid hK
    clear hI hK hn hall n2 n22 n30 n31 n32 hac hdi hR hne b0 b1 b2 b3 b4 b5 b6 b7 b8 b9 b10 b11 b12 b13
    go_simp
    exact HK.out _ _ (HI.out.put hs (j := 5) (by decide) (by decide) rfl)
  · intro l a w hI hn hall K hK
    cases ac with
    | true =>
      rw [if_neg (by rw [wanted_y (L := G) (j := 5) (b := false) (b' := true) rfl (yield_G hG (s := 212) rfl (hI.vl 5 (by decide) (by decide) (hall { on := 5, ground := Ground.guard } (by simp) rfl)))]; decide)]
      exact hK _ _ (hI.put hs (j := 6) (by decide) (by decide) rfl)
    | false =>
      rw [if_pos (by rw [wanted_y (L := G) (j := 5) (b := false) (b' := false) rfl (yield_G hG (s := 212) rfl (hI.vl 5 (by decide) (by decide) (hall { on := 5, ground := Ground.guard } (by simp) rfl)))]; rfl)]
      have m30 : a.tmps[30]? = some (.string ⟨how.toArray⟩) := (hI.lo 30 (by decide) (by decide)).trans n30
      have HI := Lib.hid hI
      have HK := Lib.hid hK
      clear hI hK hn hall n2 n22 n30 n31 n32 hdi hR hne b0 b1 b2 b3 b4 b5 b6 b7 b8 b9 b10 b11 b12 b13
      go_simp
      exact HK.out _ _ (HI.out.put hs (j := 6) (by decide) (by decide) rfl)
  · intro l a w hI hn hall K hK
    cases ac with
    | true =>
      rw [if_neg (by rw [wanted_y (L := G) (j := 5) (b := false) (b' := true) rfl (yield_G hG (s := 212) rfl (hI.vl 5 (by decide) (by decide) (hall { on := 5, ground := Ground.guard } (by simp) rfl)))]; decide)]
      exact hK _ _ (hI.put hs (j := 7) (by decide) (by decide) rfl)
    | false =>
      rw [if_pos (by rw [wanted_y (L := G) (j := 5) (b := false) (b' := false) rfl (yield_G hG (s := 212) rfl (hI.vl 5 (by decide) (by decide) (hall { on := 5, ground := Ground.guard } (by simp) rfl)))]; rfl)]
      have m213 : a.tmps[213]? = some (.string ⟨how.toArray⟩) := hI.vl 6 (by decide) (by decide) (hall { on := 6, ground := Ground.data } (by simp) rfl)
      have hd := hdi rfl
      have HI := Lib.hid hI
      have HK := Lib.hid hK
      clear hI hK hn hall n2 n22 n30 n31 n32 hdi hR hne b0 b1 b2 b3 b4 b5 b6 b7 b8 b9 b10 b11 b12 b13
      go_simp
      exact HK.out _ _ (HI.out.put hs (j := 7) (by decide) (by decide) rfl)
  · intro l a w hI hn hall K hK
    rw [if_pos (by rw [wanted_y (L := G) (j := 2) (b := true) (b' := true) rfl (yield_G hG (s := 209) rfl (hI.vl 2 (by decide) (by decide) (hall { on := 2, ground := Ground.guard } (by simp) rfl)))]; rfl)]
    cases ac with
    | true =>
      have m212 : a.tmps[212]? = some (.bool true) := hI.vl 5 (by decide) (by decide) (hall { on := 5, ground := Ground.data } (by simp) rfl)
      have HI := Lib.hid hI
      have HK := Lib.hid hK
      clear hI hK hn hall n2 n22 n30 n31 n32 hdi hR hne b0 b1 b2 b3 b4 b5 b6 b7 b8 b9 b10 b11 b12 b13
      go_simp
      exact HK.out _ _ (HI.out.put hs (j := 8) (by decide) (by decide) rfl)
    | false =>
      have m212 : a.tmps[212]? = some (.bool false) := hI.vl 5 (by decide) (by decide) (hall { on := 5, ground := Ground.data } (by simp) rfl)
      have m214 : a.tmps[214]? = some (.bool true) := hI.vl 7 (by decide) (by decide) (hall { on := 7, ground := Ground.data } (by simp) rfl)
      have HI := Lib.hid hI
      have HK := Lib.hid hK
      clear hI hK hn hall n2 n22 n30 n31 n32 hdi hR hne b0 b1 b2 b3 b4 b5 b6 b7 b8 b9 b10 b11 b12 b13
      go_simp
      exact HK.out _ _ (HI.out.put hs (j := 8) (by decide) (by decide) rfl)
  · intro l a w hI hn hall K hK
    rw [if_pos (wanted_n rfl)]
    have m209 : a.tmps[209]? = some (.bool true) := hI.vl 2 (by decide) (by decide) (hall { on := 2, ground := Ground.data } (by simp) rfl)
    have m215 : a.tmps[215]? = some (.bool true) := hI.vl 8 (by decide) (by decide) (hall { on := 8, ground := Ground.data } (by simp) rfl)
    have HI := Lib.hid hI
    have HK := Lib.hid hK
    clear hI hK hn hall n2 n22 n30 n31 n32 hac hdi hR hne b0 b1 b2 b3 b4 b5 b6 b7 b8 b9 b10 b11 b12 b13
    go_simp
    exact HK.out _ _ (HI.out.put hs (j := 9) (by decide) (by decide) rfl)
  · intro l a w hI hn hall K hK
    rw [if_pos (wanted_n rfl)]
    have m216 : a.tmps[216]? = some (.bool true) := hI.vl 9 (by decide) (by decide) (hall { on := 9, ground := Ground.data } (by simp) rfl)
    have HI := Lib.hid hI
    have HK := Lib.hid hK
    clear hI hK hn hall n2 n22 n30 n31 n32 hac hdi hR hne b0 b1 b2 b3 b4 b5 b6 b7 b8 b9 b10 b11 b12 b13
    go_simp
    exact HK.out _ _ (HI.out.put hs (j := 10) (by decide) (by decide) rfl)
  · intro l a w hI hn hall K hK
    rw [if_pos (by rw [wanted_y (L := G) (j := 10) (b := true) (b' := true) rfl (yield_G hG (s := 217) rfl (hI.vl 10 (by decide) (by decide) (hall { on := 10, ground := Ground.guard } (by simp) rfl)))]; rfl)]
    have m31 : a.tmps[31]? = some (.string ⟨text.toArray⟩) := (hI.lo 31 (by decide) (by decide)).trans n31
    have HI := Lib.hid hI
    have HK := Lib.hid hK
    clear hI hK hn hall n2 n22 n30 n31 n32 hac hdi hR hne b0 b1 b2 b3 b4 b5 b6 b7 b8 b9 b10 b11 b12 b13
    go_simp
    exact HK.out _ _ (HI.out.put hs (j := 11) (by decide) (by decide) rfl)
  · intro l a w hI hn hall K hK
    rw [if_pos (by rw [wanted_y (L := G) (j := 10) (b := true) (b' := true) rfl (yield_G hG (s := 217) rfl (hI.vl 10 (by decide) (by decide) (hall { on := 10, ground := Ground.guard } (by simp) rfl)))]; rfl)]
    have m218 : a.tmps[218]? = some (.string ⟨text.toArray⟩) := hI.vl 11 (by decide) (by decide) (hall { on := 11, ground := Ground.data } (by simp) rfl)
    have HI := Lib.hid hI
    have HK := Lib.hid hK
    clear hI hK hn hall n2 n22 n30 n31 n32 hdi hR hne b0 b1 b2 b3 b4 b5 b6 b7 b8 b9 b10 b11 b12 b13 hac
    go_simp
    refine (HTX.out _).mono ?_
    rintro e w' ⟨rfl, rfl⟩
    exact HK.out _ _ (HI.out.put hs (j := 12) (by decide) (by decide) rfl)
  · intro l a w hI hn hall K hK
    rw [if_pos (wanted_n rfl)]
    have m217 : a.tmps[217]? = some (.bool true) := hI.vl 10 (by decide) (by decide) (hall { on := 10, ground := Ground.data } (by simp) rfl)
    have m219 : a.tmps[219]? = some (.bool tx) := hI.vl 12 (by decide) (by decide) (hall { on := 12, ground := Ground.data } (by simp) rfl)
    have HI := Lib.hid hI
    have HK := Lib.hid hK
    clear hI hK hn hall n2 n22 n30 n31 n32 hac hdi hR hne b0 b1 b2 b3 b4 b5 b6 b7 b8 b9 b10 b11 b12 b13
    go_simp
    exact HK.out _ _ (HI.out.put hs (j := 13) (by decide) (by decide) rfl)
  · intro l a w hI hn hall K hK
    rw [if_pos (wanted_n rfl)]
    have h14 : w = W1 := by rw [hI.wd]; exact if_neg (fun h => pAbs hn h)
    have m207 : a.tmps[207]? = some (.agg #[.int .i64 4, .slice A 1 c, .slice none 0 0, .string ⟨text.toArray⟩, .int .i64 0, .slice none 0 0, .int .i64 0, .int .i64 0, .int .i64 0, .int .i64 0, .int .i64 x0, .int .i64 x1, .int .i64 x2, .bool ac]) := hI.vl 0 (by decide) (by decide) (hall { on := 0, ground := Ground.data } (by simp) rfl)
    have m2 : a.tmps[2]? = some (.pointer (some ⟨R, 0, none⟩)) := (hI.lo 2 (by decide) (by decide)).trans n2
    have hRl := cell_lt hR
    have c0 := cellN (i := 0) hR rfl
    have d0 := frozN (i := 0) hR
    have c1 := cellN (i := 1) hR rfl
    have d1 := frozN (i := 1) hR
    have c2 := cellN (i := 2) hR rfl
    have d2 := frozN (i := 2) hR
    have c3 := cellN (i := 3) hR rfl
    have d3 := frozN (i := 3) hR
    have c4 := cellN (i := 4) hR rfl
    have d4 := frozN (i := 4) hR
    have c5 := cellN (i := 5) hR rfl
    have d5 := frozN (i := 5) hR
    have c6 := cellN (i := 6) hR rfl
    have d6 := frozN (i := 6) hR
    have c7 := cellN (i := 7) hR rfl
    have d7 := frozN (i := 7) hR
    have c8 := cellN (i := 8) hR rfl
    have d8 := frozN (i := 8) hR
    have c9 := cellN (i := 9) hR rfl
    have d9 := frozN (i := 9) hR
    have c10 := cellN (i := 10) hR rfl
    have d10 := frozN (i := 10) hR
    have c11 := cellN (i := 11) hR rfl
    have d11 := frozN (i := 11) hR
    have c12 := cellN (i := 12) hR rfl
    have d12 := frozN (i := 12) hR
    have c13 := cellN (i := 13) hR rfl
    have d13 := frozN (i := 13) hR
    have HI := Lib.hid hI
    have HK := Lib.hid hK
    clear hI hK hn hall n2 n22 n30 n31 n32 hdi hR hne b0 b1 b2 b3 b4 b5 b6 b7 b8 b9 b10 b11 b12 b13 hac
    subst h14
    go_simp
    exact HK.out _ _ HI.out.store
  · intro l a w hI hn hall K hK
    rw [if_pos (wanted_n rfl)]
    have m220 : a.tmps[220]? = some (.bool tx) := hI.vl 13 (by decide) (by decide) (hall { on := 13, ground := Ground.data } (by simp) rfl)
    have HI := Lib.hid hI
    have HK := Lib.hid hK
    clear hI hK hn hall n2 n22 n30 n31 n32 hac hdi hR hne b0 b1 b2 b3 b4 b5 b6 b7 b8 b9 b10 b11 b12 b13
    go_simp
    exact HK.out _ _ (HI.out.put hs (j := 15) (by decide) (by decide) rfl)
theorem rep_false (m j : Nat) : (Array.replicate m false).getD j false = false := by
  rcases Nat.lt_or_ge j m with h | h
  · simp [h]
  · simp [h]
theorem region_G (a0 : Act) (w0 W1 : World) (nb R : Nat) (A : Option Addr) (c : Nat) (how text : List UInt8) (x0 x1 x2 : Int) (ac tx : Bool) (Q : Exit → Act → World → Prop) (id : Nat) (hW : W1 = w0.drew) (hs : 221 ≤ a0.tmps.size)
    (n2 : a0.tmps[2]? = some (.pointer (some ⟨R, 0, none⟩))) (n22 : a0.tmps[22]? = some (.pointer (some ⟨nb, 0, none⟩))) (n30 : a0.tmps[30]? = some (.string ⟨how.toArray⟩)) (n31 : a0.tmps[31]? = some (.string ⟨text.toArray⟩)) (n32 : a0.tmps[32]? = some (.bool true))
    (hac : (how == [97, 99, 99]) = ac) (hdi : ac = false → (how == [100, 105, 115]) = true) (hne : nb ≠ R) (hbn : nb < W1.heap.size)
    (b0 : W1.cell? ⟨nb, 0, none⟩ = some (.int .i64 4)) (b1 : W1.cell? ⟨nb, 1, none⟩ = some (.slice A 1 c)) (b2 : W1.cell? ⟨nb, 2, none⟩ = some (.slice none 0 0)) (b3 : W1.cell? ⟨nb, 3, none⟩ = some (.string ⟨text.toArray⟩)) (b4 : W1.cell? ⟨nb, 4, none⟩ = some (.int .i64 0)) (b5 : W1.cell? ⟨nb, 5, none⟩ = some (.slice none 0 0)) (b6 : W1.cell? ⟨nb, 6, none⟩ = some (.int .i64 0)) (b7 : W1.cell? ⟨nb, 7, none⟩ = some (.int .i64 0)) (b8 : W1.cell? ⟨nb, 8, none⟩ = some (.int .i64 0)) (b9 : W1.cell? ⟨nb, 9, none⟩ = some (.int .i64 0)) (b10 : W1.cell? ⟨nb, 10, none⟩ = some (.int .i64 x0)) (b11 : W1.cell? ⟨nb, 11, none⟩ = some (.int .i64 x1)) (b12 : W1.cell? ⟨nb, 12, none⟩ = some (.int .i64 x2)) (b13 : W1.cell? ⟨nb, 13, none⟩ = some (.bool ac))
    (hR : W1.heap[R]? = some (.cells #[.int .i64 0, .slice none 0 0, .slice none 0 0, .string ⟨#[]⟩, .int .i64 0, .slice none 0 0, .int .i64 0, .int .i64 0, .int .i64 0, .int .i64 0, .int .i64 0, .int .i64 0, .int .i64 0, .bool false] 51 (0, 0)))
    (HTX : Hid (∀ W, Calls Tryz.prog 65 #[.string ⟨text.toArray⟩] W fun e w' => e = .returned (.bool tx) ∧ W = w'))
    (he : ∀ a, a.defers = a0.defers → a.tmps[2]? = some (.pointer (some ⟨R, 0, none⟩)) → a.tmps[3]? = some (.bool tx) → Q .normal a ((((((((((((((W1.setCell ⟨R, 0, none⟩ (.int .i64 4)).setCell ⟨R, 1, none⟩ (.slice A 1 c)).setCell ⟨R, 2, none⟩ (.slice none 0 0)).setCell ⟨R, 3, none⟩ (.string ⟨text.toArray⟩)).setCell ⟨R, 4, none⟩ (.int .i64 0)).setCell ⟨R, 5, none⟩ (.slice none 0 0)).setCell ⟨R, 6, none⟩ (.int .i64 0)).setCell ⟨R, 7, none⟩ (.int .i64 0)).setCell ⟨R, 8, none⟩ (.int .i64 0)).setCell ⟨R, 9, none⟩ (.int .i64 0)).setCell ⟨R, 10, none⟩ (.int .i64 x0)).setCell ⟨R, 11, none⟩ (.int .i64 x1)).setCell ⟨R, 12, none⟩ (.int .i64 x2)).setCell ⟨R, 13, none⟩ (.bool ac))) : (Code.region id opsG.toArray true).wp Tryz.prog Q a0 w0 := by
  refine region_guard (GI a0 W1 ((((((((((((((W1.setCell ⟨R, 0, none⟩ (.int .i64 4)).setCell ⟨R, 1, none⟩ (.slice A 1 c)).setCell ⟨R, 2, none⟩ (.slice none 0 0)).setCell ⟨R, 3, none⟩ (.string ⟨text.toArray⟩)).setCell ⟨R, 4, none⟩ (.int .i64 0)).setCell ⟨R, 5, none⟩ (.slice none 0 0)).setCell ⟨R, 6, none⟩ (.int .i64 0)).setCell ⟨R, 7, none⟩ (.int .i64 0)).setCell ⟨R, 8, none⟩ (.int .i64 0)).setCell ⟨R, 9, none⟩ (.int .i64 0)).setCell ⟨R, 10, none⟩ (.int .i64 x0)).setCell ⟨R, 11, none⟩ (.int .i64 x1)).setCell ⟨R, 12, none⟩ (.int .i64 x2)).setCell ⟨R, 13, none⟩ (.bool ac)) (valG (.agg #[.int .i64 4, .slice A 1 c, .slice none 0 0, .string ⟨text.toArray⟩, .int .i64 0, .slice none 0 0, .int .i64 0, .int .i64 0, .int .i64 0, .int .i64 0, .int .i64 x0, .int .i64 x1, .int .i64 x2, .bool ac]) how text ac tx)) rfl (by kernel_rfl) ?_ (fun l a w h => h.sz) (steps_G opsG rfl a0 W1 nb R A c how text x0 x1 x2 ac tx Q hs n2 n22 n30 n31 n32 hac hdi hne hbn b0 b1 b2 b3 b4 b5 b6 b7 b8 b9 b10 b11 b12 b13 hR HTX) (fun l a w hI hall => ?_)
  · subst hW
    refine ⟨by simp [opsG], rfl, rfl, fun _ _ _ => rfl, fun j hj _ h => ?_, ?_⟩
    · rw [rep_false] at h
      cases h
    · rw [if_neg (by rw [rep_false]; decide)]
  · have h14 := hall 14 (by decide)
    have hw := hI.wd
    rw [if_pos h14] at hw
    rw [hw]
    exact he a hI.df ((hI.lo 2 (by decide) (by decide)).trans n2) (hI.vl 15 (by decide) (by decide) (hall 15 (by decide)))
end Go.Proofs.YtllnamhgnbdkmaaGreatDoor
