/-
The document's answer for package kind: Word, Count, begins.
-/
import Derived.Test.YtllnamhgnbdkmaaGreatDoorKd
import Derived.Test.YtllnamhgnbdkmaaGreatDoorKt
import Derived.Test.YtllnamhgnbdkmaaGreatDoorOf
namespace Go.Proofs.YtllnamhgnbdkmaaGreatDoor.Knd
open Go.RowKit
theorem infoRT : (Tryz.prog.info? 45).map (fun i => (i.zero, i.size, i.bytes)) = some (some (.agg #[.int .i64 0, .slice none 0 0]), 2, 32) := by kernel_rfl
def wordStr (k : Int) : ByteArray := ((wordK k).map (·.name)).getD ⟨#[]⟩
def countK (k : Int) : Int := if k = 6 then 2 else if k = 7 then 1 else if k = 9 then 1 else 0
theorem word_cases (k : Int) : (k = 1 ∨ k = 2 ∨ k = 3 ∨ k = 4 ∨ k = 5 ∨ k = 6 ∨ k = 7 ∨ k = 9) ∨ (k ≠ 1 ∧ k ≠ 2 ∧ k ≠ 3 ∧ k ≠ 4 ∧ k ≠ 5 ∧ k ≠ 6 ∧ k ≠ 7 ∧ k ≠ 9) := by omega
theorem wordStr_other {k : Int} (h : k ≠ 1 ∧ k ≠ 2 ∧ k ≠ 3 ∧ k ≠ 4 ∧ k ≠ 5 ∧ k ≠ 6 ∧ k ≠ 7 ∧ k ≠ 9) : wordK k = none := by
  unfold wordK
  rw [List.find?_eq_none]
  intro x hx
  simp only [words, List.mem_cons, List.not_mem_nil, or_false] at hx
  rcases hx with rfl | rfl | rfl | rfl | rfl | rfl | rfl | rfl <;> simp [w1, w2, w3, w4, w5, w6, w7, w9] <;> omega
set_option maxRecDepth 100000 in
set_option maxHeartbeats 400000 in
theorem word_any (k : Int) (w : World) : Calls Tryz.prog 94 #[.int .i64 k] w fun e w' => e = .returned (.string (wordStr k)) ∧ w = w' := by
  rcases word_cases k with (rfl | rfl | rfl | rfl | rfl | rfl | rfl | rfl) | h
  · go_enter Tryz.func94, Tryz.ntmps94; go_wp2_with (fail); go_ret; exact ⟨rfl, rfl⟩
  · go_enter Tryz.func94, Tryz.ntmps94; go_wp2_with (fail); go_ret; exact ⟨rfl, rfl⟩
  · go_enter Tryz.func94, Tryz.ntmps94; go_wp2_with (fail); go_ret; exact ⟨rfl, rfl⟩
  · go_enter Tryz.func94, Tryz.ntmps94; go_wp2_with (fail); go_ret; exact ⟨rfl, rfl⟩
  · go_enter Tryz.func94, Tryz.ntmps94; go_wp2_with (fail); go_ret; exact ⟨rfl, rfl⟩
  · go_enter Tryz.func94, Tryz.ntmps94; go_wp2_with (fail); go_ret; exact ⟨rfl, rfl⟩
  · go_enter Tryz.func94, Tryz.ntmps94; go_wp2_with (fail); go_ret; exact ⟨rfl, rfl⟩
  · go_enter Tryz.func94, Tryz.ntmps94; go_wp2_with (fail); go_ret; exact ⟨rfl, rfl⟩
  · have HW : Hid (wordStr k = ⟨#[]⟩) := by show _ = _; simp only [wordStr, wordStr_other h]; rfl
    obtain ⟨h1, h2, h3, h4, h5, h6, h7, h9⟩ := h
    have g1 : (k == 1) = false := by simp [h1]
    have g2 : (k == 2) = false := by simp [h2]
    have g3 : (k == 3) = false := by simp [h3]
    have g4 : (k == 4) = false := by simp [h4]
    have g5 : (k == 5) = false := by simp [h5]
    have g6 : (k == 6) = false := by simp [h6]
    have g7 : (k == 7) = false := by simp [h7]
    have g9 : (k == 9) = false := by simp [h9]
    clear h1 h2 h3 h4 h5 h6 h7 h9
    go_enter Tryz.func94, Tryz.ntmps94
    go_wp2_with (fail)
    go_ret
    rw [HW.out]
    exact ⟨rfl, rfl⟩
set_option maxRecDepth 100000 in
theorem count_any (k : Int) (w : World) : Calls Tryz.prog 95 #[.int .i64 k] w fun e w' => e = .returned (.int .i64 (countK k)) ∧ w = w' := by
  by_cases h6 : k = 6
  · subst h6
    go_enter Tryz.func95, Tryz.ntmps95; go_wp2_with (fail); go_ret; exact ⟨rfl, rfl⟩
  · by_cases h7 : k = 7
    · subst h7
      go_enter Tryz.func95, Tryz.ntmps95; go_wp2_with (fail); go_ret; exact ⟨rfl, rfl⟩
    · by_cases h9 : k = 9
      · subst h9
        go_enter Tryz.func95, Tryz.ntmps95; go_wp2_with (fail); go_ret; exact ⟨rfl, rfl⟩
      · have HC : Hid (countK k = 0) := by show _ = _; simp only [countK, if_neg h6, if_neg h7, if_neg h9]
        have g6 : (k == 6) = false := by simp [h6]
        have g7 : (k == 7) = false := by simp [h7]
        have g9 : (k == 9) = false := by simp [h9]
        clear h6 h7 h9
        go_enter Tryz.func95, Tryz.ntmps95
        go_wp2_with (fail)
        go_ret
        rw [HC.out]
        exact ⟨rfl, rfl⟩
theorem words_count : ∀ x ∈ words, x.args = countK x.kind := by decide
def pfx (a : ByteArray) (l : List UInt8) : Bool := decide (l.take a.size = a.data.toList)
set_option maxRecDepth 100000 in
theorem begins_any (a b : ByteArray) (w : World) :
    Calls Tryz.prog 115 #[.string a, .string b] w fun e w' => e = .returned (.bool (pfx a b.data.toList)) ∧ w = w' := by
  by_cases h : a.size ≤ b.size
  · have HP : Hid (((b.extract 0 a.size).toList == a.toList) = pfx a b.data.toList) := by
      show _ = _
      rw [Lib.toList_data, Lib.toList_data, Lib.extract_data, Nat.sub_zero, List.drop_zero, pfx, Bool.eq_iff_iff]
      simp
    go_enter Tryz.func115, Tryz.ntmps115
    go_wp2_with (fail)
    go_ret
    rw [← HP.out]
    exact ⟨rfl, rfl⟩
  · have HP : Hid (pfx a b.data.toList = false) := by
      show _ = _
      unfold pfx
      rw [decide_eq_false_iff_not]
      intro e
      have := congrArg List.length e
      simp at this
      omega
    go_enter Tryz.func115, Tryz.ntmps115
    go_wp2_with (fail)
    go_ret
    rw [HP.out]
    exact ⟨rfl, rfl⟩
def lcp : List UInt8 → List UInt8 → Nat
  | a :: l, b :: m => if a = b then lcp l m + 1 else 0
  | _, _ => 0
theorem lcp_nil (l : List UInt8) : lcp l [] = 0 := by cases l <;> rfl
theorem readW_none_all : ∀ (l : List UInt8) (lw : List Wd) (n k : Nat), readW lw n l = (k, none) → St lw n →
    (∀ y ∈ lw, lcp (y.name.data.toList.drop n) l ≤ k) ∧ (k = 0 ∨ ∃ y ∈ lw, lcp (y.name.data.toList.drop n) l = k)
  | [], lw, n, k, h, _ => by
    simp only [readW, Prod.mk.injEq] at h
    obtain ⟨rfl, _⟩ := h
    exact ⟨fun y _ => by rw [lcp_nil]; exact Nat.le_refl _, .inl rfl⟩
  | b :: rest, lw, n, k, h, hst => by
    unfold readW at h
    have split1 : ∀ y ∈ lw, y ∉ onW lw n b → lcp (y.name.data.toList.drop n) (b :: rest) = 0 := fun y hy hno => by
      have hl := (hst.1 y hy).2
      have hyl : y.name.data.toList.length = y.name.size := by simp
      rw [List.drop_eq_getElem_cons (by omega)]
      simp only [lcp]
      rw [if_neg]
      intro e
      refine hno (List.mem_filter.2 ⟨hy, ?_⟩)
      rw [List.getElem?_eq_getElem (by omega)]
      simp [e]
    have split2 : ∀ y ∈ onW lw n b, lcp (y.name.data.toList.drop n) (b :: rest) = lcp (y.name.data.toList.drop (n + 1)) rest + 1 := fun y hy => by
      obtain ⟨hy1, hy2⟩ := List.mem_filter.1 hy
      have e2 : y.name.data.toList[n]? = some b := by simpa using hy2
      obtain ⟨hn, hb⟩ := List.getElem?_eq_some_iff.1 e2
      rw [List.drop_eq_getElem_cons hn, hb, lcp, if_pos rfl]
    cases ho : onW lw n b with
    | nil =>
      simp only [ho, Prod.mk.injEq] at h
      obtain ⟨rfl, _⟩ := h
      exact ⟨fun y hy => by rw [split1 y hy (by rw [ho]; simp)]; exact Nat.le_refl _, .inl rfl⟩
    | cons x l' =>
      simp only [ho] at h
      split at h
      · rename_i hx
        rw [Prod.mk.injEq] at h
        obtain ⟨h1, h2⟩ := h
        subst h1
        obtain ⟨i1, i2⟩ := readW_none_all rest (x :: l') (n + 1) (readW (x :: l') (n + 1) rest).1 (Prod.ext rfl h2) (hst.step ho hx)
        refine ⟨fun y hy => ?_, .inr ?_⟩
        · by_cases hm : y ∈ onW lw n b
          · rw [split2 y hm]
            have := i1 y (by rw [← ho]; exact hm)
            omega
          · rw [split1 y hy hm]; omega
        · have hxm : x ∈ onW lw n b := by rw [ho]; exact List.mem_cons_self ..
          rcases i2 with i2 | ⟨y, hy, he⟩
          · refine ⟨x, (List.mem_filter.1 hxm).1, ?_⟩
            rw [split2 x hxm]
            have := i1 x (List.mem_cons_self ..)
            omega
          · have hym : y ∈ onW lw n b := by rw [ho]; exact hy
            exact ⟨y, (List.mem_filter.1 hym).1, by rw [split2 y hym, he]⟩
      · simp at h
theorem readW_hit {room : Int} {x : Wd} {l : List UInt8} (hx : x ∈ fitW room words) (hp : pfx x.name l = true) : readW (fitW room words) 0 l = (x.name.size, some x) := by
  have h6 := words_small x (List.mem_filter.1 hx).1
  obtain ⟨m, hm⟩ : ∃ m, x.name.size = m + 1 := ⟨x.name.size - 1, by omega⟩
  rw [hm]
  refine readW_word m _ 0 x l (St.start _) hx (by omega) ?_
  rw [List.drop_zero, ← hm]
  exact of_decide_eq_true hp
theorem readW_miss {room : Int} {l : List UInt8} (h : ∀ y ∈ fitW room words, pfx y.name l = false) : ∃ k, readW (fitW room words) 0 l = (k, none) := by
  cases hr : readW (fitW room words) 0 l with
  | mk k o =>
    cases o with
    | none => exact ⟨k, rfl⟩
    | some x =>
      have hx := readW_mem l (fitW room words) 0 x (by rw [hr])
      have he := readW_ends l _ 0 k x hr (St.start _)
      rw [List.drop_zero] at he
      have h2 := h x hx
      unfold pfx at h2
      rw [decide_eq_false_iff_not] at h2
      have hk : k ≤ l.length := by have := readW_le l (fitW room words) 0; rw [hr] at this; exact this
      have hl := congrArg List.length he
      simp only [List.length_take, Array.length_toList, ByteArray.size_data] at hl
      rw [Nat.min_eq_left hk] at hl
      exact absurd (by rw [← hl]; exact he) h2
def bestW (room : Int) (l : List UInt8) (kk : Int) : Nat := ((fitW room words).filter fun y => decide (y.kind < kk)).foldl (fun m y => max m (lcp y.name.data.toList l)) 0
theorem foldl_max_ge (f : Wd → Nat) : ∀ (l : List Wd) (m : Nat), m ≤ l.foldl (fun m y => max m (f y)) m ∧ ∀ y ∈ l, f y ≤ l.foldl (fun m y => max m (f y)) m
  | [], m => ⟨Nat.le_refl _, fun y hy => by simp at hy⟩
  | x :: l, m => by
    obtain ⟨h1, h2⟩ := foldl_max_ge f l (max m (f x))
    simp only [List.foldl_cons]
    exact ⟨by omega, fun y hy => by
      rcases List.mem_cons.1 hy with rfl | hy
      · omega
      · exact h2 y hy⟩
theorem foldl_max_le (f : Wd → Nat) (k : Nat) : ∀ (l : List Wd) (m : Nat), m ≤ k → (∀ y ∈ l, f y ≤ k) → l.foldl (fun m y => max m (f y)) m ≤ k
  | [], m, h, _ => h
  | x :: l, m, h, hl => by
    simp only [List.foldl_cons]
    exact foldl_max_le f k l _ (by have := hl x (List.mem_cons_self ..); omega) (fun y hy => hl y (List.mem_cons_of_mem _ hy))
theorem best_all {room : Int} {l : List UInt8} {k : Nat} (h : readW (fitW room words) 0 l = (k, none)) : bestW room l 10 = k := by
  obtain ⟨h1, h2⟩ := readW_none_all l _ 0 k h (St.start _)
  have hall : (fitW room words).filter (fun y => decide (y.kind < 10)) = fitW room words := by
    rw [List.filter_eq_self]
    intro y hy
    have : ∀ y ∈ words, decide (y.kind < 10) = true := by decide
    exact this y (List.mem_filter.1 hy).1
  unfold bestW
  rw [hall]
  have hge := foldl_max_ge (fun y => lcp y.name.data.toList l) (fitW room words) 0
  have hle := foldl_max_le (fun y => lcp y.name.data.toList l) k (fitW room words) 0 (by omega) (fun y hy => by have := h1 y hy; rw [List.drop_zero] at this; exact this)
  rcases h2 with rfl | ⟨y, hy, he⟩
  · omega
  · rw [List.drop_zero] at he
    have := hge.2 y hy
    omega
def ScOut (w w' : World) (r n : Nat) (e : Ending) : Nat × Option Ty → Prop
  | (k, none) => e = .returned (.tuple #[.agg #[.int .i64 0, .slice none 0 0], .int .i64 ((n + k : Nat) : Int), .bool false])
  | (k, some t) => ∃ v, e = .returned (.tuple #[v, .int .i64 ((n + k : Nat) : Int), .bool true]) ∧ TyAt w' (fun b => w.heap.size ≤ b) r v t
theorem words_names : ∀ x ∈ words, x.name.toList ≠ [] := by
  intro x hx h
  have h2 := (words_small x hx).1
  have h3 : x.name.toList.length = x.name.size := by rw [Lib.toList_data]; simp
  rw [h] at h3
  simp at h3
  omega
theorem words_kinds : ∀ x ∈ words, 1 ≤ x.kind ∧ x.kind ≤ 9 := by decide
theorem wordK_none_or {kk : Int} {y : Wd} (h : wordK kk = none) (hy : y ∈ words) : y.kind ≠ kk := by
  intro e
  have := wordK_of hy
  rw [e, h] at this
  simp at this
theorem wordK_unique {kk : Int} {x y : Wd} (h : wordK kk = some x) (hy : y ∈ words) (e : y.kind = kk) : y = x := by
  have := wordK_of hy
  rw [e, h] at this
  injection this with this
  exact this.symm
structure ScInv (s : ByteArray) (n r kk : Nat) (w wr : World) : Prop where
  below : Below w.heap.size w wr
  size : w.heap.size < wr.heap.size
  res : wr.heap[w.heap.size]? = some (.cells #[.int .i64 0, .slice none 0 0] 45 (0, 0))
  miss : ∀ y ∈ fitW ((r : Int) + 1) words, y.kind < kk → pfx y.name (s.data.toList.drop n) = false
structure SaInv (w : World) (T : Nat) (x : Wd) (r n k : Nat) (s : ByteArray) (i : Nat) (acc : List Ty) (vs : Value) (m : Nat) (wr : World) : Prop where
  below : Below w.heap.size w wr
  lo : w.heap.size < T
  size : T < wr.heap.size
  res : wr.heap[w.heap.size]? = some (.cells #[.int .i64 0, .slice none 0 0] 45 (0, 0))
  tcell : wr.heap[T]? = some (.cells #[.int .i64 x.kind, vs] 45 (0, 0))
  len : acc.length = i
  own : ∃ cs, wr.ownsRow (T + 1) 45 2 vs i cs ∧ ∀ (j : Nat) (a : Ty), acc[j]? = some a → ∃ u0 u1, cs[j * 2]? = some u0 ∧ cs[j * 2 + 1]? = some u1 ∧ TyAt wr (fun b => T + 1 ≤ b ∧ some b ≠ vs.ownBlock) r (.agg #[u0, u1]) a
  le : n + m ≤ s.size
  eq : readArgs (readT r) (s.data.toList.drop n) x.args.toNat 0 k [] = readArgs (readT r) (s.data.toList.drop n) (x.args.toNat - i) i m acc
theorem SaInv.next {T n r k i m q : Nat} {s : ByteArray} {x : Wd} {w wr w3 w7 : World} {acc : List Ty} {vs v' u0 u1 : Value} {a : Ty} {cs : List Value} {o1 o2 : Obj} (hI : SaInv w T x r n k s i acc vs m wr)
    (hown : wr.ownsRow (T + 1) 45 2 vs i cs) (hargs : ∀ (j : Nat) (a : Ty), acc[j]? = some a → ∃ u0 u1, cs[j * 2]? = some u0 ∧ cs[j * 2 + 1]? = some u1 ∧ TyAt wr (fun b => T + 1 ≤ b ∧ some b ≠ vs.ownBlock) r (.agg #[u0, u1]) a)
    (hlt : i < x.args.toNat) (hh : ((s.data.toList.drop n).drop m).head? = some (aheadB i)) (hq : readT r ((s.data.toList.drop n).drop (m + 1)) = (q, some a)) (hnm : n + m < s.size)
    (hb3 : Below wr.heap.size wr w3) (hT : TyAt w3 (fun b => wr.heap.size ≤ b) r (.agg #[u0, u1]) a)
    (hg : ((w3.alloc o1).alloc o2).grownBy w7 vs.ownBlock) (hown7 : w7.ownsRow (T + 1) 45 2 v' (i + 1) (cs ++ [u0, u1])) (hat : v'.ownBlock = vs.ownBlock ∨ v'.ownBlock = some ((w3.alloc o1).alloc o2).heap.size) :
    SaInv w T x r n k s (i + 1) (acc ++ [a]) v' (m + 1 + q) (w7.setCell ⟨T, 1, none⟩ v') := by
  have s3 := hb3.size
  have sr := hI.size
  have slo := hI.lo
  have hlen6 : ((w3.alloc o1).alloc o2).heap.size = w3.heap.size + 2 := by simp
  have s7 := hg.size
  have hvs : ∀ b, vs.ownBlock = some b → T + 1 ≤ b ∧ b < wr.heap.size := hown.lt
  have step : ∀ b, b < w3.heap.size → some b ≠ vs.ownBlock → b ≠ T → (w7.setCell ⟨T, 1, none⟩ v').heap[b]? = w3.heap[b]? := fun b hb hne hT => by
    rw [Below.heap_setCell _ _ _ _ hT, hg.block b (by omega) hne, Below.heap_alloc _ _ _ (by simp; omega), Below.heap_alloc _ _ _ hb]
  have stepr : ∀ b, b < wr.heap.size → some b ≠ vs.ownBlock → b ≠ T → (w7.setCell ⟨T, 1, none⟩ v').heap[b]? = wr.heap[b]? := fun b hb hne hT => by
    rw [step b (by omega) hne hT, hb3.block b hb]
  have ne1 : ∀ b, b < T + 1 → some b ≠ vs.ownBlock := fun b hb e => by have := (hvs b e.symm).1; omega
  have hdl := readT_le r ((s.data.toList.drop n).drop (m + 1))
  rw [hq] at hdl
  simp only [List.length_drop, Array.length_toList, ByteArray.size_data] at hdl
  have hws : w.heap.size ≤ wr.heap.size := hI.below.size
  refine ⟨?_, slo, ?_, ?_, ?_, by simp [hI.len], ⟨cs ++ [u0, u1], ownsRow_setCell_below hown7 (by simp) _, ?_⟩, by omega, readArgs_on hI.eq hlt hh hq⟩
  · exact (((((hI.below.trans (hb3.mono hws)).alloc (by omega) o1).alloc (by simp; omega) o2).grown hg (by omega) (fun k hk => by have := (hvs k hk).1; omega)).setCell (p := ⟨T, 1, none⟩) (by show _ ≤ T; omega) _)
  · simp only [World.setCell, Array.size_modify]; omega
  · rw [stepr _ (by omega) (ne1 _ (by omega)) (by omega)]; exact hI.res
  · have ht : w7.heap[T]? = some (.cells #[.int .i64 x.kind, vs] 45 (0, 0)) := by
      rw [hg.block _ (by omega) (ne1 _ (by omega)), Below.heap_alloc _ _ _ (by simp; omega), Below.heap_alloc _ _ _ (by omega), hb3.block _ (by omega)]
      exact hI.tcell
    simp [World.setCell, Array.getElem?_modify, ht]
  · intro j a' hj
    have hcl : cs.length = i * 2 := hown.1
    rcases Nat.lt_or_ge j acc.length with hja | hja
    · rw [List.getElem?_append_left hja] at hj
      obtain ⟨x0, x1, h0, h1, h2⟩ := hargs j a' hj
      have hji := hI.len
      refine ⟨x0, x1, by rw [List.getElem?_append_left (by omega)]; exact h0, by rw [List.getElem?_append_left (by omega)]; exact h1, TyAt.move (fun b hS hb => ⟨⟨hS.1, fun e => ?_⟩, fun o => World.cell?_of_block (stepr b hb hS.2 (by omega))⟩) _ _ _ h2⟩
      rcases hat with h | h
      · exact hS.2 (e.trans h)
      · rw [h, hlen6] at e; injection e; omega
    · have hji := hI.len
      have hje : j = acc.length := by
        have := (List.getElem?_eq_some_iff.1 hj).1
        simp at this
        omega
      rw [hje, List.getElem?_append_right (Nat.le_refl _), Nat.sub_self] at hj
      simp at hj
      subst hj
      refine ⟨u0, u1, by rw [List.getElem?_append_right (by omega)]; simp [show j * 2 - cs.length = 0 by omega], by rw [List.getElem?_append_right (by omega)]; simp [show j * 2 + 1 - cs.length = 1 by omega], TyAt.move (fun b hS hb => ⟨⟨by omega, fun e => ?_⟩, fun o => World.cell?_of_block (step b hb (fun e => ?_) (by omega))⟩) _ _ _ hT⟩
      · have := (hvs b e.symm).2
        omega
      · rcases hat with h | h
        · rw [h] at e
          have := (hvs b e.symm).2
          omega
        · rw [h, hlen6] at e; injection e; omega
theorem sc_bad {w w' : World} {r n k : Nat} {a : Int} (h : a = ((n + k : Nat) : Int)) : ScOut w w' r n (.returned (.tuple #[.agg #[.int .i64 0, .slice none 0 0], .int .i64 a, .bool false])) (k, none) := by
  subst h; rfl
theorem sc_good {w w' : World} {r n k : Nat} {a : Int} {v : Value} {t : Ty} (h : a = ((n + k : Nat) : Int)) (hT : TyAt w' (fun b => w.heap.size ≤ b) r v t) : ScOut w w' r n (.returned (.tuple #[v, .int .i64 a, .bool true])) (k, some t) := by
  subst h; exact ⟨v, rfl, hT⟩
def ScOk (r : Nat) : Prop := ∀ (s : ByteArray) (n : Nat) (w : World), n ≤ s.size → s.size ≤ 1000000 →
    Calls Tryz.prog 88 #[.string s, .int .i64 (n : Int), .int .i64 (r : Int)] w fun e w' => ScOut w w' r n e (readT r (s.data.toList.drop n)) ∧ Below w.heap.size w w'
theorem byte_ne_true {a : UInt8} {c : UInt8} {z : Int} (hz : (c.toNat : Int) = z) (h : a = c) : ((a.toNat : Int) != z) = false := by
  subst hz; subst h; simp
theorem byte_ne_false {a : UInt8} {c : UInt8} {z : Int} (hz : (c.toNat : Int) = z) (h : a ≠ c) : ((a.toNat : Int) != z) = true := by
  subst hz
  simp only [bne, u8_beq_false h, Bool.not_false]
theorem bw1 : words.filter (fun y => decide (y.kind < 2)) = words.filter (fun y => decide (y.kind < 1)) ++ (wordK 1).toList := by rfl
theorem bw2 : words.filter (fun y => decide (y.kind < 3)) = words.filter (fun y => decide (y.kind < 2)) ++ (wordK 2).toList := by rfl
theorem bw3 : words.filter (fun y => decide (y.kind < 4)) = words.filter (fun y => decide (y.kind < 3)) ++ (wordK 3).toList := by rfl
theorem bw4 : words.filter (fun y => decide (y.kind < 5)) = words.filter (fun y => decide (y.kind < 4)) ++ (wordK 4).toList := by rfl
theorem bw5 : words.filter (fun y => decide (y.kind < 6)) = words.filter (fun y => decide (y.kind < 5)) ++ (wordK 5).toList := by rfl
theorem bw6 : words.filter (fun y => decide (y.kind < 7)) = words.filter (fun y => decide (y.kind < 6)) ++ (wordK 6).toList := by rfl
theorem bw7 : words.filter (fun y => decide (y.kind < 8)) = words.filter (fun y => decide (y.kind < 7)) ++ (wordK 7).toList := by rfl
theorem bw8 : words.filter (fun y => decide (y.kind < 9)) = words.filter (fun y => decide (y.kind < 8)) ++ (wordK 8).toList := by rfl
theorem bw9 : words.filter (fun y => decide (y.kind < 10)) = words.filter (fun y => decide (y.kind < 9)) ++ (wordK 9).toList := by rfl
theorem bw_all (kk : Nat) (h1 : 1 ≤ kk) (h9 : kk ≤ 9) : words.filter (fun y => decide (y.kind < ((kk + 1 : Nat) : Int))) = words.filter (fun y => decide (y.kind < (kk : Int))) ++ (wordK (kk : Int)).toList := by
  match kk, h1, h9 with
  | 1, _, _ => exact bw1
  | 2, _, _ => exact bw2
  | 3, _, _ => exact bw3
  | 4, _, _ => exact bw4
  | 5, _, _ => exact bw5
  | 6, _, _ => exact bw6
  | 7, _, _ => exact bw7
  | 8, _, _ => exact bw8
  | 9, _, _ => exact bw9
theorem fitW_filter (room : Int) (f : Wd → Bool) : (fitW room words).filter f = fitW room (words.filter f) := by
  unfold fitW
  rw [List.filter_filter, List.filter_filter]
  congr 1
  funext x
  exact Bool.and_comm _ _
theorem best_first (room : Int) (l : List UInt8) : bestW room l 1 = 0 := by
  unfold bestW
  rw [fitW_filter]
  rfl
theorem best_none {room : Int} {l : List UInt8} {kk : Nat} (h1 : 1 ≤ kk) (h9 : kk ≤ 9) (h : wordK (kk : Int) = none) : bestW room l ((kk + 1 : Nat) : Int) = bestW room l (kk : Int) := by
  unfold bestW
  rw [fitW_filter, fitW_filter, bw_all kk h1 h9, h]
  simp
theorem best_out {room : Int} {l : List UInt8} {kk : Nat} {x : Wd} (h1 : 1 ≤ kk) (h9 : kk ≤ 9) (h : wordK (kk : Int) = some x) (hx : x ∉ fitW room words) : bestW room l ((kk + 1 : Nat) : Int) = bestW room l (kk : Int) := by
  unfold bestW
  rw [fitW_filter, fitW_filter, bw_all kk h1 h9, h]
  have hb : (decide (1 < room) || decide (x.args = 0)) = false := by
    cases hh : (decide (1 < room) || decide (x.args = 0)) with
    | false => rfl
    | true => exact absurd (List.mem_filter.2 ⟨(wordK_mem h).1, hh⟩) hx
  rw [show (some x).toList = [x] from rfl, fitW_snoc_not room _ x hb]
theorem best_in {room : Int} {l : List UInt8} {kk : Nat} {x : Wd} (h1 : 1 ≤ kk) (h9 : kk ≤ 9) (h : wordK (kk : Int) = some x) (hx : x ∈ fitW room words) : bestW room l ((kk + 1 : Nat) : Int) = max (bestW room l (kk : Int)) (lcp x.name.data.toList l) := by
  unfold bestW
  rw [fitW_filter, fitW_filter, bw_all kk h1 h9, h, show (some x).toList = [x] from rfl, fitW_snoc room _ x (List.mem_filter.1 hx).2, List.foldl_append]
  rfl
theorem lcp_more {a : List UInt8} {l : List UInt8} {k : Nat} (ha : k < a.length) (hl : k < l.length) (he : l[k] = a[k]) : lcp (a.drop k) (l.drop k) = lcp (a.drop (k + 1)) (l.drop (k + 1)) + 1 := by
  rw [List.drop_eq_getElem_cons ha, List.drop_eq_getElem_cons hl, lcp, if_pos he.symm]
theorem lcp_stop {a : List UInt8} {l : List UInt8} {k : Nat} (h : ∀ (ha : k < a.length) (hl : k < l.length), l[k] ≠ a[k]) : lcp (a.drop k) (l.drop k) = 0 := by
  rcases Nat.lt_or_ge k a.length with ha | ha
  · rcases Nat.lt_or_ge k l.length with hl | hl
    · rw [List.drop_eq_getElem_cons ha, List.drop_eq_getElem_cons hl, lcp, if_neg (fun e => h ha hl e.symm)]
    · rw [List.drop_of_length_le hl, lcp_nil]
  · rw [List.drop_of_length_le ha]
    cases l.drop k <;> rfl
end Go.Proofs.YtllnamhgnbdkmaaGreatDoor.Knd
