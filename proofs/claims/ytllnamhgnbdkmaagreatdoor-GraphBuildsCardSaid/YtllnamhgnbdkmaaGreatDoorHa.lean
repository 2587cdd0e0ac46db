/-
Stage 11: what GraphBuilds lays: plain.
-/
import Derived.Test.YtllnamhgnbdkmaaGreatDoorGw
import Derived.Test.YtllnamhgnbdkmaaGreatDoorGm
import Derived.Test.YtllnamhgnbdkmaaGreatDoorRd
import Derived.ArgAppend
import Derived.Lib.SmallJoins
set_option linter.unusedVariables false
set_option linter.unusedSimpArgs false
namespace Go.Proofs.YtllnamhgnbdkmaaGreatDoor
open Go.RowKit Go.Shelf
def inOf (n : Gn) : Int := n.ins.headD 0
def lawN (n : Gn) : Option Gn :=
  if n.op = 1 then some { gz 1 with ty := n.ty }
  else if n.op = 2 then some { gz 2 with ins := [inOf n], side := n.side, text := n.text }
  else if n.op = 3 then some { gz 3 with ins := [inOf n], f0 := n.f0, f1 := n.f1, f2 := n.f2, f3 := n.f3 }
  else if n.op = 4 then some { gz 4 with ins := [inOf n], text := n.text, e := n.e, l := n.l, lt := n.lt, acc := n.acc }
  else if n.op = 5 then some { gz 5 with ins := n.ins }
  else if n.op = 6 then some { gz 6 with ins := [inOf n] }
  else none
def LawOk (n : Gn) : Prop := n.op = 1 ∨ n.ty = tyZ
theorem lawN_ok {n m : Gn} (h : lawN n = some m) : LawOk m := by
  unfold lawN at h
  repeat' (split at h)
  · cases h; exact .inl rfl
  all_goals first | (cases h; exact .inr rfl) | cases h
theorem measure_tyZ : Knd.measureT 6 tyZ = none := by decide
theorem madeT_tyZ : madeT tyZ = tyZ := by unfold madeT; rw [measure_tyZ]; rfl
theorem madeT_some (t : Ty) : (Knd.measureT 6 (madeT t)).isSome = (Knd.measureT 6 t).isSome := by
  unfold madeT
  split
  · rfl
  · rename_i h
    rw [measure_tyZ]
    cases hm : Knd.measureT 6 t with
    | none => rfl
    | some q => rw [hm] at h; exact absurd rfl h
theorem madeN_form {n : Gn} (h : LawOk n) : formP (madeN n) = formP n := by
  rcases h with h | h
  · have h1 : (madeN n).op = 1 := h
    unfold formP
    rw [h, h1]
    have e : (Knd.measureT 6 (madeN n).ty).isSome = (Knd.measureT 6 n.ty).isSome := madeT_some n.ty
    simp only [noTx, noFn, noSp, madeN] at e ⊢
    rw [e]
    simp only [if_true]
  · have : madeN n = n := by
      unfold madeN
      rw [h, madeT_tyZ]
      cases n
      simp only at h
      subst h
      rfl
    rw [this]
theorem may_map (a : List Gn) (x : Int) : mayP (a.map madeN) x = mayP a x := by
  unfold mayP
  rw [List.getElem?_map]
  cases a[x.toNat]? <;> rfl
theorem readP_map (a : List Gn) : ∀ (l : List Int) (last : Int), readP (a.map madeN) l last = readP a l last
  | [], _ => rfl
  | x :: l, last => by
    unfold readP
    rw [may_map, readP_map a l x]
theorem chkN_map (a : List Gn) {n : Gn} (h : LawOk n) : chkN (a.map madeN) (madeN n) = chkN a n := by
  unfold chkN
  have e1 : (madeN n).op = n.op := rfl
  have e2 : (madeN n).ins = n.ins := rfl
  have e3 : (madeN n).side = n.side := rfl
  rw [e1, e2, e3, madeN_form h]
  simp only [readP_map]
theorem okN_map {L : List Gn} (h : ∀ n ∈ L, LawOk n) (i : Nat) : okN (L.map madeN) i = okN L i := by
  unfold okN
  rw [List.getElem?_map]
  cases hi : L[i]? with
  | none => rfl
  | some n =>
    show chkN ((L.map madeN).take i) (madeN n) = chkN (L.take i) n
    rw [← List.map_take]
    exact chkN_map _ (h n (List.mem_of_getElem? hi))
theorem chk_map {L : List Gn} (h : ∀ n ∈ L, LawOk n) : chkAll (L.map madeN) = chkAll L := by
  unfold chkAll
  rw [List.length_map]
  simp only [okN_map h]
theorem chk_kept {L : List Gn} (h : ∀ n ∈ L, LawOk n) : chkAll ((L.map madeN).take 33) = chkAll L := by rw [chk_take, chk_map h]
theorem made_right {L : List Gn} (h : ∀ n ∈ L, LawOk n) (hc : (chkAll L).2 = 0) : L.map madeN = L := by
  obtain ⟨hok, _⟩ := okG hc
  refine (List.map_congr_left fun n hn => ?_).trans (List.map_id L)
  show madeN n = n
  rcases h n hn with h1 | h1
  · obtain ⟨i, hi, rfl⟩ := List.getElem_of_mem hn
    have hf := (hok.each i _ (List.getElem?_eq_getElem hi)).form
    unfold formP at hf
    simp only [Bool.and_eq_true, if_pos h1] at hf
    have ht := hf.2.1
    unfold madeN madeT
    rw [if_pos ht]
  · unfold madeN
    rw [h1, madeT_tyZ]
    cases n
    simp only at h1
    subst h1
    rfl
theorem done_list {L : List Gn} (h : ∀ n ∈ L, LawOk n) (hc : (chkAll L).2 = 0) : (((L.map madeN).take 33).map madeN) = L := by
  have hl := chk_few hc
  rw [List.take_of_length_le (by rw [List.length_map]; omega), made_right h hc, made_right h hc]
theorem law_all (l : List Gn) : ∀ n ∈ l.filterMap lawN, LawOk n := fun n hn => by
  obtain ⟨m, _, hm⟩ := List.mem_filterMap.1 hn
  exact lawN_ok hm
theorem law_next {l : List Gn} {j : Nat} {n : Gn} (h : l.take (j + 1) = l.take j ++ [n]) : (l.take (j + 1)).filterMap lawN = (l.take j).filterMap lawN ++ (lawN n).toList := by
  rw [h, List.filterMap_append]
  cases hn : lawN n <;> simp [hn]
end Go.Proofs.YtllnamhgnbdkmaaGreatDoor
set_option linter.unusedVariables false
set_option linter.unusedSimpArgs false
namespace Go.Proofs.YtllnamhgnbdkmaaGreatDoor
open Go.RowKit Go.Shelf Go.Sort
def IntsO (w : World) (B : Nat) (v : Value) (l : List Int) : Prop := ∃ A c, v = .slice A l.length c ∧ l.length ≤ c ∧ (A = none → c = 0) ∧ (0 < l.length → w.ownsRow B 3 1 v l.length (l.map fun x => .int .i64 x))
theorem IntsO.form {w : World} {B : Nat} {v : Value} {l : List Int} (h : IntsO w B v l) : ∃ A c, v = .slice A l.length c := by
  obtain ⟨A, c, e, _⟩ := h
  exact ⟨A, c, e⟩
theorem IntsO.ints {w : World} {B : Nat} {v : Value} {l : List Int} (h : IntsO w B v l) : IntsAt w (fun b => B ≤ b) v l := by
  obtain ⟨A, c, rfl, h1, h2, h3⟩ := h
  by_cases h0 : 0 < l.length
  · exact IntsAt.of_own (h3 h0)
  · exact ⟨A, c, rfl, h1, h2, fun h => absurd h h0⟩
theorem IntsO.kept {w w' : World} {B : Nat} {v : Value} {l : List Int} {row : Option Nat} (h : IntsO w B v l) (hg : w.grownBy w' row) (hne : v.ownBlock = none ∨ v.ownBlock ≠ row) : IntsO w' B v l := by
  obtain ⟨A, c, e, h1, h2, h3⟩ := h
  exact ⟨A, c, e, h1, h2, fun h0 => (h3 h0).kept hg hne⟩
theorem IntsO.below {w w' : World} {B : Nat} {v : Value} {l : List Int} (h : IntsO w B v l) (hb : Below w.heap.size w w') : IntsO w' B v l :=
  h.kept (row := none) ⟨hb.os, hb.tape, hb.output, hb.size, fun k hk _ => hb.block k hk⟩ (by cases hv : v.ownBlock <;> simp)
theorem IntsO.at {w : World} {B : Nat} {A : Option Addr} {n c : Nat} {l : List Int} (h : IntsO w B (.slice A n c) l) {j : Nat} (hj : j < l.length) : ∃ g, A = some ⟨g, 0, none⟩ ∧ B ≤ g ∧ g < w.heap.size ∧ w.cell? ⟨g, j, none⟩ = some (.int .i64 l[j]) ∧ w.frozen? ⟨g, j, none⟩ = false ∧
    ∀ x : Int, IntsO (w.setCell ⟨g, j, none⟩ (.int .i64 x)) B (.slice A n c) (l.set j x) ∧ w.grownBy (w.setCell ⟨g, j, none⟩ (.int .i64 x)) (some g) := by
  obtain ⟨A', c', e, h1, h2, h3⟩ := h
  injection e with e1 e2 e3
  subst e1 e2 e3
  have ho := h3 (by omega)
  obtain ⟨g, cap, e4⟩ := Go.Joins.ownsRow_form ho (by omega)
  injection e4 with e5 e6 e7
  subst e5 e7
  have hlt := ho.lt g rfl
  refine ⟨g, rfl, hlt.1, hlt.2, ?_, ho.frozenAt j, fun x => ?_⟩
  · rw [ho.cellAt j (by omega)]
    simp [List.getElem?_eq_getElem hj]
  · obtain ⟨hs, hgr⟩ := ho.stored j (.int .i64 x)
    refine ⟨⟨_, _, by rw [List.length_set], by rw [List.length_set]; exact h1, (fun h => by cases h), fun _ => ?_⟩, hgr⟩
    rw [List.length_set, List.map_set]
    exact hs
theorem run_copyO (w : World) (g ty : Nat) (S : Nat → Prop) (vx : Value) (l2 : List Int) (h : IntsAt w S vx l2) (hlen : l2.length ≤ 1000000) :
    ∃ v' w', (Builtin.append_ #[41, 41] ty #[.slice (some ⟨g, 0, none⟩) 0 0, vx]).run Tryz.prog w = .ok v' w' ∧ IntsO w' w.heap.size v' l2 ∧ Below w.heap.size w w' := by
  obtain ⟨i0, hi, hq0, hq1, hq2⟩ := info_parts info3
  obtain ⟨A, c, rfl, hc, hnil, hj⟩ := h
  by_cases h0 : l2.length = 0
  · obtain rfl : l2 = [] := List.eq_nil_of_length_eq_zero h0
    have hr : (Builtin.append_ #[41, 41] ty #[.slice (some ⟨g, 0, none⟩) 0 0, .slice A ([] : List Int).length c]).run Tryz.prog w = .ok (.slice (some ⟨g, 0, none⟩) 0 0) w := by
      cases A <;> simp [Builtin.append_, run_underlying Tryz.underlying41, sizeOf, typeInfo, hi, Builtin.lenOf, Builtin.firstCells, storeCells, loadCells, loadCellsFrom]
    exact ⟨_, _, hr, ⟨some ⟨g, 0, none⟩, 0, rfl, Nat.le_refl _, (fun h => by cases h), fun h => by simp at h⟩, Below.refl _ _⟩
  · obtain ⟨b, o, rfl, hS, hb, hx⟩ := hj (by omega)
    obtain ⟨v', w', hr, ho, hgr⟩ := run_append_arg_grows (P := Tryz.prog) w 41 ty 3 i0 (.int .i64 0) 1 8 (show Tryz.prog.underlying 41 = _ from Tryz.underlying41) hi hq0 hq1 hq2 (by simp [Value.cells]) (by omega) ⟨g, 0, none⟩ 0 0 [] (by simp) (by simp) ⟨b, o, none⟩ l2.length c (l2.map encZ) (by simp) (fun j v hv => by
      rw [List.getElem?_map, Option.map_eq_some_iff] at hv
      obtain ⟨x, h1, rfl⟩ := hv
      rw [addr_add]
      exact hx j x h1) (by omega) (by unfold maxLen; omega) (by omega)
    rw [Nat.zero_add] at ho
    obtain ⟨g', cap, e4⟩ := Go.Joins.ownsRow_form ho (by omega)
    have hle : l2.length ≤ cap := by
      rcases ho.2 with ⟨h', _⟩ | ⟨g2, cap2, cur, h', _, _, hn, _⟩
      · rw [e4] at h'; simp at h'
      · rw [e4] at h'
        injection h' with _ _ h7
        omega
    exact ⟨v', w', hr, ⟨_, _, e4, hle, (fun h => by cases h), fun _ => ho⟩, ⟨hgr.os, hgr.tape, hgr.output, hgr.size, fun k hk => hgr.block k hk (by simp)⟩⟩
theorem wp_copyO {w : World} {o : Oper} {a : Act} {K : Act → World → Prop} {Q : Exit → Act → World → Prop} (s x : Operand)
    (ho : o.op = .call { callee := .builtin .append, args := #[s, x], argTypes := #[41, 41] }) (g : Nat) (hs : a.eval s = .slice (some ⟨g, 0, none⟩) 0 0) (S : Nat → Prop) (vx : Value) (hx : a.eval x = vx) (l2 : List Int) (hst : IntsAt w S vx l2) (hlen : l2.length ≤ 1000000)
    (h : ∀ v' w', IntsO w' w.heap.size v' l2 → Below w.heap.size w w' → K (a.put o.dst v') w') : o.wp Tryz.prog a w K Q := by
  obtain ⟨v', w', hr, h1, h2⟩ := run_copyO w g o.type S vx l2 hst hlen
  unfold Oper.wp execOp
  simp only [ho, resolve, invoke, builtin, Sem.run_bind, Sem.run_pure, Result.andThen_ok, List.map_toArray, List.map_cons, List.map_nil, hs, hx, hr]
  exact h v' w' h1 h2
theorem wpList_copyO (w : World) {ops : Array Oper} {rest : List Oper} {o : Oper} {a : Act} {Q : Exit → Act → World → Prop} (hgd : o.guard = none) (s x : Operand)
    (ho : o.op = .call { callee := .builtin .append, args := #[s, x], argTypes := #[41, 41] }) (g : Nat) (hs : a.eval s = .slice (some ⟨g, 0, none⟩) 0 0) (S : Nat → Prop) (vx : Value) (hx : a.eval x = vx) (l2 : List Int) (hst : IntsAt w S vx l2) (hlen : l2.length ≤ 1000000)
    (h : ∀ v' w', IntsO w' w.heap.size v' l2 → Below w.heap.size w w' → wpList Tryz.prog ops Q rest (a.put o.dst v') w') : wpList Tryz.prog ops Q (o :: rest) a w :=
  wpList_plain hgd fun K hK => wp_copyO s x ho g hs S vx hx l2 hst hlen fun v' w' h1 h2 => hK _ _ (h v' w' h1 h2)
end Go.Proofs.YtllnamhgnbdkmaaGreatDoor
