/-
Slices of strings: what the library's functions do with them.
-/
import Derived.Test.YteebihdgfkmgmaaGreatDoorBs
import Derived.Test.YteebihdgfkmgmaaGreatDoorShelf
import Derived.Shelf.Spec.SlicesGrow
import Derived.Laws.AppendOwnNone
import Derived.Lib.OwnBridge
import Derived.Sort.OwnSorted
import Derived.Sort.Grow
namespace Go.Proofs.YteebihdgfkmgmaaGreatDoor
open Go.RowKit Go.Shelf Go.Sort

/-- The value v is a slice of these strings; it lies in a block of S. -/
def StrAt (w : World) (S : Nat → Prop) (v : Value) (l : List (List UInt8)) : Prop :=
  (v = .slice none 0 0 ∧ l = []) ∨ ∃ b o c, v = .slice (some ⟨b, o, none⟩) l.length c ∧ l.length ≤ c ∧ S b ∧ ∀ (j : Nat) (x : List UInt8), l[j]? = some x → w.cell? ⟨b, o + j, none⟩ = some (encStr x)
theorem StrAt.nil (w : World) (S : Nat → Prop) : StrAt w S (.slice none 0 0) [] := .inl ⟨rfl, rfl⟩
theorem StrAt.move {w w' : World} {S S' : Nat → Prop} {v : Value} {l : List (List UInt8)} (h : StrAt w S v l) (hk : ∀ b, S b → S' b ∧ (b < w.heap.size → ∀ o, w'.cell? ⟨b, o, none⟩ = w.cell? ⟨b, o, none⟩)) : StrAt w' S' v l := by
  rcases h with h | ⟨b, o, c, rfl, hc, hS, hj⟩
  · exact .inl h
  · obtain ⟨hS', hcell⟩ := hk b hS
    exact .inr ⟨b, o, c, rfl, hc, hS', fun j x hx => (hcell (World.block_lt_of_cell? w _ (hj j x hx)) _).trans (hj j x hx)⟩
theorem StrAt.below {w w' : World} {S : Nat → Prop} {v : Value} {l : List (List UInt8)} (h : StrAt w S v l) (hb : Below w.heap.size w w') : StrAt w' S v l :=
  h.move fun b hS => ⟨hS, fun hl o => hb.cell (p := ⟨b, o, none⟩) hl⟩
theorem StrAt.wider {w : World} {S S' : Nat → Prop} {v : Value} {l : List (List UInt8)} (h : StrAt w S v l) (hS : ∀ b, S b → S' b) : StrAt w S' v l :=
  h.move fun b hb => ⟨hS b hb, fun _ _ => rfl⟩
theorem StrAt.form {w : World} {S : Nat → Prop} {v : Value} {l : List (List UInt8)} (h : StrAt w S v l) : ∃ A c, v = .slice A l.length c := by
  rcases h with ⟨rfl, rfl⟩ | ⟨b, o, c, rfl, _⟩
  · exact ⟨_, _, rfl⟩
  · exact ⟨_, _, rfl⟩
theorem StrAt.of_own {w : World} {B : Nat} {v : Value} {l : List (List UInt8)} (h : w.ownsRow B 9 1 v l.length (l.map encStr)) : StrAt w (fun b => B ≤ b) v l := by
  have h0 := h
  rcases h.2 with ⟨rfl, hz⟩ | ⟨g, cap, cur, rfl, hb, hg, hn, hm, hs, ht⟩
  · exact .inl ⟨rfl, List.eq_nil_of_length_eq_zero hz⟩
  · refine .inr ⟨g, 0, cap, rfl, hn, hb, fun j x hx => ?_⟩
    have hj : j < l.length := (List.getElem?_eq_some_iff.1 hx).1
    rw [Nat.zero_add, h0.cellAt j (by omega), List.getElem?_map, hx]
    rfl
theorem encStr_arr (x : List UInt8) : encStr x = .string ⟨x.toArray⟩ := rfl

theorem mem_bytes {l : List (List UInt8)} {x : List UInt8} : (⟨x.toArray⟩ : ByteArray) ∈ l.map (fun y => (⟨y.toArray⟩ : ByteArray)) ↔ x ∈ l := by
  rw [List.mem_map]
  constructor
  · rintro ⟨y, hy, he⟩
    have : y = x := by
      have := congrArg (fun z : ByteArray => z.data.toList) he
      simpa using this
    exact this ▸ hy
  · exact fun h => ⟨x, h, rfl⟩

/-- slices.Contains. -/
theorem contains_any (S : Nat → Prop) (v : Value) (l : List (List UInt8)) (x : List UInt8) (w : World) (h : StrAt w S v l) (hl : l.length ≤ 1000000000) :
    Calls Tryz.prog 92 #[v, .string ⟨x.toArray⟩] w fun e w' => e = .returned (.bool (decide (x ∈ l))) ∧ w' = w := by
  rcases h with ⟨rfl, rfl⟩ | ⟨b, o, c, rfl, hc, _, hj⟩
  · exact (Tryz.slices_Contains_string_empty none 0 ⟨x.toArray⟩ w).mono fun e w' ⟨he, hw⟩ => ⟨by rw [he]; simp, hw⟩
  · have hz := Tryz.slices_Contains_string b o l.length c (l.map fun y => ⟨y.toArray⟩) ⟨x.toArray⟩ w (by simp) (by omega) (fun j hj' => by
      have hj2 : j < l.length := by simpa using hj'
      rw [hj j _ (List.getElem?_eq_getElem hj2), encStr_arr]
      simp [List.getD, List.getElem?_eq_getElem hj2])
    refine hz.mono fun e w' ⟨he, hw⟩ => ⟨?_, hw⟩
    rw [he]
    congr 2
    rw [Bool.eq_iff_iff, Lib.containsS_iff, decide_eq_true_eq, List.take_of_length_le (by simp), mem_bytes]
end Go.Proofs.YteebihdgfkmgmaaGreatDoor

namespace Go.Proofs.YteebihdgfkmgmaaGreatDoor
open Go.RowKit Go.Shelf Go.Sort

theorem info9 : (Tryz.prog.info? 9).map (fun i => (i.zero, i.size, i.bytes)) = some (some (.string ⟨#[]⟩), 1, 16) := by kernel_rfl

/-- The row of a grown slice of strings. -/
theorem grow_any (n : Nat) (w : World) (hn : n ≤ 1000000000) :
    Calls Tryz.prog 132 #[.slice none 0 0, .int .i64 (n : Int)] w fun e w' => ∃ v, e = .returned v ∧ w'.ownsRow w.heap.size 9 1 v 0 [] ∧ Below w.heap.size w w' := by
  by_cases h0 : n = 0
  · subst h0
    exact (Any8.slices_Grow_room Tryz.laysGrow none 0 0 0 w (by omega) (by omega) (by omega) (by omega)).mono fun e w' ⟨he, hw⟩ => ⟨_, he, World.ownsRow_nil _ _ _ _, hw ▸ Below.refl _ _⟩
  · obtain ⟨i0, hi, hq0, hq1, hq2⟩ := info_parts info9
    have hg := Any8.slices_Grow_grow Tryz.laysGrow i0 _ (show Tryz.prog.info? 9 = some i0 from hi) hq0 (by omega) none 0 0 n [] w (by omega) (by omega) (by rw [hq2]; omega) (by omega) (by simp) (fun _ => rfl) (fun a ha => by cases ha)
    rw [show Tryz.laysGrow_ren.t 25 = 9 from rfl] at hg
    refine hg.mono fun e w' ⟨he, hw⟩ => ⟨_, he, ?_, ?_⟩
    · subst hw
      refine ⟨rfl, .inr ⟨w.heap.size, grownCap w (0 + n) 0 9, _, rfl, Nat.le_refl _, heap_new_at (by simp), Nat.zero_le _, grownCap_le_maxLen w _ 0 9 (by unfold maxLen; omega), ?_, by simp⟩⟩
      have := grownCap_ge w n 0 9
      simp [Builtin.zeroCells, Value.cells]
      omega
    · subst hw
      exact ((Below.refl _ w).drew).alloc (Nat.le_refl _) _

/-- append(own, strings...): the strings of any slice. -/
theorem wpList_append_strs {ops : Array Oper} {rest : List Oper} {o : Oper} {a : Act} {w : World} {Q : Exit → Act → World → Prop} (hgd : o.guard = none) (s x : Operand)
    (ho : o.op = .call { callee := .builtin .append, args := #[s, x], argTypes := #[49, 49] })
    (base : Nat) (v : Value) (l l2 : List (List UInt8)) (hs : a.eval s = v) (hown : w.ownsRow base 9 1 v l.length (l.map encStr)) (S : Nat → Prop) (vx : Value) (hx : a.eval x = vx) (hst : StrAt w S vx l2)
    (hlen : l.length + l2.length ≤ 1000000000) (hbase : base ≤ w.heap.size)
    (h : ∀ v' w', w'.ownsRow base 9 1 v' (l ++ l2).length ((l ++ l2).map encStr) → w.grownBy w' v.ownBlock → (v'.ownBlock = v.ownBlock ∨ v'.ownBlock = some w.heap.size) → wpList Tryz.prog ops Q rest (a.put o.dst v') w') :
    wpList Tryz.prog ops Q (o :: rest) a w := by
  obtain ⟨i0, hi, hq0, hq1, hq2⟩ := info_parts info9
  rcases hst with ⟨rfl, rfl⟩ | ⟨b, o', c, rfl, hc, _, hj⟩
  · refine wpList_append_own_none hgd s x 49 ho base 9 i0 1 Tryz.underlying49 hi v l.length (l.map encStr) hs hown hx ?_
    refine h v w (by simpa using hown) ⟨rfl, rfl, rfl, Nat.le_refl _, fun _ _ _ => rfl⟩ (.inl rfl)
  · refine wpList_append_own_at w hgd s x 49 ho base 9 i0 (.string ⟨#[]⟩) 1 16 Tryz.underlying49 hi hq0 hq1 hq2 rfl (by decide) v l.length (l.map encStr) hs hown ⟨b, o', none⟩ l2.length c (l2.map encStr) hx (by simp) (fun j u hu => ?_) (fun u hu => ?_) (by unfold maxLen; omega) (by omega) hbase (fun v' w' h1 h2 _ h4 => ?_)
    · rw [List.getElem?_map] at hu
      cases hl : l2[j]? with
      | none => rw [hl] at hu; cases hu
      | some y =>
        rw [hl] at hu
        have hu' : encStr y = u := Option.some.inj hu
        rw [← hu']
        have hjy := hj j y hl
        unfold Addr.add
        split
        · rename_i h0; subst h0; exact hjy
        · exact hjy
    · obtain ⟨y, _, rfl⟩ := List.mem_map.1 hu
      rfl
    · exact h v' w' (by rw [List.length_append, List.map_append]; exact h1) h2 h4

/-- The first ones of two lists. -/
def catJ (a b : List (List UInt8)) : Nat → List (List UInt8)
  | 0 => []
  | 1 => a
  | _ => a ++ b
/-- The length of the first ones. -/
def szJ (a b : Nat) : Nat → Nat
  | 0 => 0
  | 1 => a
  | _ => a + b

set_option maxRecDepth 100000 in
set_option maxHeartbeats 1000000 in
theorem concat_any (S : Nat → Prop) (g : Nat) (v1 v2 : Value) (l1 l2 : List (List UInt8)) (w : World) (h1 : StrAt w S v1 l1) (h2 : StrAt w S v2 l2) (hg : w.heap[g]? = some (.cells #[v1, v2] 49 (0, 0))) (hl : l1.length + l2.length ≤ 1000000) :
    Calls Tryz.prog 94 #[.slice (some ⟨g, 0, none⟩) 2 2] w fun e w' => (∃ v', e = .returned v' ∧ StrAt w' (fun b => w.heap.size ≤ b) v' (l1 ++ l2)) ∧ Below w.heap.size w w' := by
  have c0 := cell2_0 hg
  have c1 := cell2_1 hg
  have hgl := cell_lt hg
  obtain ⟨A1, k1, rfl⟩ := h1.form
  obtain ⟨A2, k2, rfl⟩ := h2.form
  have H1 := Lib.hid h1
  have H2 := Lib.hid h2
  clear h1 h2
  go_enter Tryz.func94, Tryz.ntmps94
  go_wp2_with (fail)
  go_loopw [3, 11] (fun sz iv wr => ∃ j : Nat, iv = .int .i64 (j : Int) ∧ j ≤ 2 ∧ sz = .int .i64 ((szJ l1.length l2.length j : Nat) : Int) ∧ wr = w) (fun _ iv _ => 2 - (intOf iv).toNat)
  case atStart => exact ⟨0, rfl, by omega, rfl, rfl⟩
  case round =>
    obtain ⟨j, rfl, hj, rfl, hw⟩ := hrel
    have hw' := hw.symm
    subst hw'
    rcases (show j = 0 ∨ j = 1 ∨ j = 2 by omega) with rfl | rfl | rfl
    · have e0 : szJ l1.length l2.length 0 = 0 := rfl
      rw [e0]
      go_wp2_with (fail)
      go_roundw
      case rel => exact ⟨1, by go_num, by omega, by go_num, trivial⟩
      case measure => simp [intOf]
    · have e0 : szJ l1.length l2.length 1 = l1.length := rfl
      rw [e0]
      go_wp2_with (fail)
      go_roundw
      case rel => exact ⟨2, by go_num, by omega, by go_num, trivial⟩
      case measure => simp [intOf]
    · have e0 : szJ l1.length l2.length 2 = l1.length + l2.length := rfl
      obtain ⟨n, hn⟩ : ∃ n, n = l1.length + l2.length := ⟨_, rfl⟩
      have HN := Lib.hid hn
      rw [e0, ← hn]
      have hn1 : n ≤ 1000000 := by omega
      clear hn e0
      go_wp2_with (fail)
      refine (grow_any n w (by omega)).mono ?_
      rintro e w2 ⟨v2, rfl, ho2, hb2⟩
      have HO2 := Lib.hid ho2
      have HB2 := Lib.hid hb2
      clear ho2 hb2
      go_wp2_with (fail)
      go_loopw [6, 27] (fun ns iv wq => ∃ j : Nat, iv = .int .i64 (j : Int) ∧ j ≤ 2 ∧ wq.ownsRow w.heap.size 9 1 ns (catJ l1 l2 j).length ((catJ l1 l2 j).map encStr) ∧ Hid (Below w.heap.size w wq)) (fun _ iv _ => 2 - (intOf iv).toNat)
      case atStart => exact ⟨0, rfl, by omega, HO2.out, HB2⟩
      case round =>
        obtain ⟨j, rfl, hj, ho, HB⟩ := hrel
        have HOW := Lib.hid ho
        have hsz := HB.out.size
        clear ho
        have k0 := (HB.out.cell (p := ⟨g, 0, none⟩) hgl).trans c0
        have k1 := (HB.out.cell (p := ⟨g, 1, none⟩) hgl).trans c1
        rcases (show j = 0 ∨ j = 1 ∨ j = 2 by omega) with rfl | rfl | rfl
        · go_wp2_with (at_builtin; refine wpList_append_strs rfl _ _ rfl w.heap.size _ (catJ l1 l2 0) l1 rfl HOW.out S _ rfl (H1.out.below HB.out) (by simp [catJ]; omega) hsz ?_; intro v7 w7 hown7 hgrow7 hat7)
          go_roundw
          case rel => exact ⟨1, by go_num, by omega, hown7, HB.out.grown hgrow7 hsz (fun k hk => (HOW.out.lt k hk).1)⟩
          case measure => simp [intOf]
        · go_wp2_with (at_builtin; refine wpList_append_strs rfl _ _ rfl w.heap.size _ (catJ l1 l2 1) l2 rfl HOW.out S _ rfl (H2.out.below HB.out) (by simp [catJ]; omega) hsz ?_; intro v7 w7 hown7 hgrow7 hat7)
          go_roundw
          case rel => exact ⟨2, by go_num, by omega, hown7, HB.out.grown hgrow7 hsz (fun k hk => (HOW.out.lt k hk).1)⟩
          case measure => simp [intOf]
        · go_wp2_with (fail)
          go_ret
          exact ⟨⟨_, rfl, StrAt.of_own HOW.out⟩, HB.out⟩
end Go.Proofs.YteebihdgfkmgmaaGreatDoor
