/-
Slices of strings: what the library's functions do with them.
-/
import Derived.Test.YtadbnlnifacblaaGreatDoorRc1
import Derived.Test.YtadbnlnifacblaaGreatDoorShelg
import Derived.Shelf.Spec.SlicesGrow
import Derived.Laws.AppendOwnNone
import Derived.Lib.OwnBridge
import Derived.Sort.OwnSorted
import Derived.Sort.Grow
import Derived.Test.YtadbnlnifacblaaGreatDoorRc3
namespace Go.Proofs.YtadbnlnifacblaaGreatDoor
open Go.RowKit Go.Shelf Go.Sort
def StrAt (w : World) (S : Nat → Prop) (v : Value) (l : List (List UInt8)) : Prop :=
  (v = .slice none 0 0 ∧ l = []) ∨ ∃ b o c, v = .slice (some ⟨b, o, none⟩) l.length c ∧ l.length ≤ c ∧ S b ∧ ∀ (j : Nat) (x : List UInt8), l[j]? = some x → w.cell? ⟨b, o + j, none⟩ = some (encStr x)
theorem StrAt.nil (w : World) (S : Nat → Prop) : StrAt w S (.slice none 0 0) [] := .inl ⟨rfl, rfl⟩
theorem StrAt.move {w w' : World} {S S' : Nat → Prop} {v : Value} {l : List (List UInt8)} (h : StrAt w S v l) (hk : ∀ b, S b → S' b ∧ (b < w.heap.size → ∀ o, w'.cell? ⟨b, o, none⟩ = w.cell? ⟨b, o, none⟩)) : StrAt w' S' v l := by
  rcases h with h | ⟨b, o, c, rfl, hc, hS, hj⟩
  · exact .inl h
  · obtain ⟨hS', hcell⟩ := hk b hS
    exact .inr ⟨b, o, c, rfl, hc, hS', fun j x hx => (hcell (World.block_lt_of_cell? w _ (hj j x hx)) _).trans (hj j x hx)⟩
theorem StrAt.below {w w' : World} {S : Nat → Prop} {v : Value} {l : List (List UInt8)} (h : StrAt w S v l) (hb : Below w.heap.size w w') : StrAt w' S v l :=
  h.move fun b hS => ⟨hS, fun hl o => hb.cell (p := ⟨b, o, none⟩) hl⟩
theorem StrAt.wider {w : World} {S S' : Nat → Prop} {v : Value} {l : List (List UInt8)} (h : StrAt w S v l) (hS : ∀ b, S b → S' b) : StrAt w S' v l :=
  h.move fun b hb => ⟨hS b hb, fun _ _ => rfl⟩
theorem StrAt.form {w : World} {S : Nat → Prop} {v : Value} {l : List (List UInt8)} (h : StrAt w S v l) : ∃ A c, v = .slice A l.length c := by
  rcases h with ⟨rfl, rfl⟩ | ⟨b, o, c, rfl, _⟩
  · exact ⟨_, _, rfl⟩
  · exact ⟨_, _, rfl⟩
theorem StrAt.of_own {w : World} {B : Nat} {v : Value} {l : List (List UInt8)} (h : w.ownsRow B 9 1 v l.length (l.map encStr)) : StrAt w (fun b => B ≤ b) v l := by
  have h0 := h
  rcases h.2 with ⟨rfl, hz⟩ | ⟨g, cap, cur, rfl, hb, hg, hn, hm, hs, ht⟩
  · exact .inl ⟨rfl, List.eq_nil_of_length_eq_zero hz⟩
  · refine .inr ⟨g, 0, cap, rfl, hn, hb, fun j x hx => ?_⟩
    have hj : j < l.length := (List.getElem?_eq_some_iff.1 hx).1
    rw [Nat.zero_add, h0.cellAt j (by omega), List.getElem?_map, hx]
    rfl
theorem encStr_arr (x : List UInt8) : encStr x = .string ⟨x.toArray⟩ := rfl
theorem mem_bytes {l : List (List UInt8)} {x : List UInt8} : (⟨x.toArray⟩ : ByteArray) ∈ l.map (fun y => (⟨y.toArray⟩ : ByteArray)) ↔ x ∈ l := by
  rw [List.mem_map]
  constructor
  · rintro ⟨y, hy, he⟩
    have : y = x := by
      have := congrArg (fun z : ByteArray => z.data.toList) he
      simpa using this
    exact this ▸ hy
  · exact fun h => ⟨x, h, rfl⟩
theorem contains_any (S : Nat → Prop) (v : Value) (l : List (List UInt8)) (x : List UInt8) (w : World) (h : StrAt w S v l) (hl : l.length ≤ 1000000000) :
    Calls Tryz.prog 89 #[v, .string ⟨x.toArray⟩] w fun e w' => e = .returned (.bool (decide (x ∈ l))) ∧ w' = w := by
  rcases h with ⟨rfl, rfl⟩ | ⟨b, o, c, rfl, hc, _, hj⟩
  · exact (Tryz.slices_Contains_string_empty none 0 ⟨x.toArray⟩ w).mono fun e w' ⟨he, hw⟩ => ⟨by rw [he]; simp, hw⟩
  · have hz := Tryz.slices_Contains_string b o l.length c (l.map fun y => ⟨y.toArray⟩) ⟨x.toArray⟩ w (by simp) (by omega) (fun j hj' => by
      have hj2 : j < l.length := by simpa using hj'
      rw [hj j _ (List.getElem?_eq_getElem hj2), encStr_arr]
      simp [List.getD, List.getElem?_eq_getElem hj2])
    refine hz.mono fun e w' ⟨he, hw⟩ => ⟨?_, hw⟩
    rw [he]
    congr 2
    rw [Bool.eq_iff_iff, Lib.containsS_iff, decide_eq_true_eq, List.take_of_length_le (by simp), mem_bytes]
end Go.Proofs.YtadbnlnifacblaaGreatDoor
namespace Go.Proofs.YtadbnlnifacblaaGreatDoor
open Go.RowKit Go.Shelf Go.Sort
theorem info9 : (Tryz.prog.info? 9).map (fun i => (i.zero, i.size, i.bytes)) = some (some (.string ⟨#[]⟩), 1, 16) := by kernel_rfl
theorem grow_any (n : Nat) (w : World) (hn : n ≤ 1000000000) :
    Calls Tryz.prog 130 #[.slice none 0 0, .int .i64 (n : Int)] w fun e w' => ∃ v, e = .returned v ∧ w'.ownsRow w.heap.size 9 1 v 0 [] ∧ Below w.heap.size w w' := by
  by_cases h0 : n = 0
  · subst h0
    exact (Any8.slices_Grow_room Tryz.laysGrow none 0 0 0 w (by omega) (by omega) (by omega) (by omega)).mono fun e w' ⟨he, hw⟩ => ⟨_, he, World.ownsRow_nil _ _ _ _, hw ▸ Below.refl _ _⟩
  · obtain ⟨i0, hi, hq0, hq1, hq2⟩ := info_parts info9
    have hg := Any8.slices_Grow_grow Tryz.laysGrow i0 _ (show Tryz.prog.info? 9 = some i0 from hi) hq0 (by omega) none 0 0 n [] w (by omega) (by omega) (by rw [hq2]; omega) (by omega) (by simp) (fun _ => rfl) (fun a ha => by cases ha)
    rw [show Tryz.laysGrow_ren.t 25 = 9 from rfl] at hg
    refine hg.mono fun e w' ⟨he, hw⟩ => ⟨_, he, ?_, ?_⟩
    · subst hw
      refine ⟨rfl, .inr ⟨w.heap.size, grownCap w (0 + n) 0 9, _, rfl, Nat.le_refl _, heap_new_at (by simp), Nat.zero_le _, grownCap_le_maxLen w _ 0 9 (by unfold maxLen; omega), ?_, by simp⟩⟩
      have := grownCap_ge w n 0 9
      simp [Builtin.zeroCells, Value.cells]
      omega
    · subst hw
      exact ((Below.refl _ w).drew).alloc (Nat.le_refl _) _
theorem wpList_append_strs {ops : Array Oper} {rest : List Oper} {o : Oper} {a : Act} {w : World} {Q : Exit → Act → World → Prop} (hgd : o.guard = none) (s x : Operand)
    (ho : o.op = .call { callee := .builtin .append, args := #[s, x], argTypes := #[49, 49] })
    (base : Nat) (v : Value) (l l2 : List (List UInt8)) (hs : a.eval s = v) (hown : w.ownsRow base 9 1 v l.length (l.map encStr)) (S : Nat → Prop) (vx : Value) (hx : a.eval x = vx) (hst : StrAt w S vx l2)
    (hlen : l.length + l2.length ≤ 1000000000) (hbase : base ≤ w.heap.size)
    (h : ∀ v' w', w'.ownsRow base 9 1 v' (l ++ l2).length ((l ++ l2).map encStr) → w.grownBy w' v.ownBlock → (v'.ownBlock = v.ownBlock ∨ v'.ownBlock = some w.heap.size) → wpList Tryz.prog ops Q rest (a.put o.dst v') w') :
    wpList Tryz.prog ops Q (o :: rest) a w := by
  obtain ⟨i0, hi, hq0, hq1, hq2⟩ := info_parts info9
  rcases hst with ⟨rfl, rfl⟩ | ⟨b, o', c, rfl, hc, _, hj⟩
  · refine wpList_append_own_none hgd s x 49 ho base 9 i0 1 Tryz.underlying49 hi v l.length (l.map encStr) hs hown hx ?_
    refine h v w (by simpa using hown) ⟨rfl, rfl, rfl, Nat.le_refl _, fun _ _ _ => rfl⟩ (.inl rfl)
  · refine wpList_append_own_at w hgd s x 49 ho base 9 i0 (.string ⟨#[]⟩) 1 16 Tryz.underlying49 hi hq0 hq1 hq2 rfl (by decide) v l.length (l.map encStr) hs hown ⟨b, o', none⟩ l2.length c (l2.map encStr) hx (by simp) (fun j u hu => ?_) (fun u hu => ?_) (by unfold maxLen; omega) (by omega) hbase (fun v' w' h1 h2 _ h4 => ?_)
    · rw [List.getElem?_map] at hu
      cases hl : l2[j]? with
      | none => rw [hl] at hu; cases hu
      | some y =>
        rw [hl] at hu
        have hu' : encStr y = u := Option.some.inj hu
        rw [← hu']
        have hjy := hj j y hl
        unfold Addr.add
        split
        · rename_i h0; subst h0; exact hjy
        · exact hjy
    · obtain ⟨y, _, rfl⟩ := List.mem_map.1 hu
      rfl
    · exact h v' w' (by rw [List.length_append, List.map_append]; exact h1) h2 h4
def catJ (a b : List (List UInt8)) : Nat → List (List UInt8)
  | 0 => []
  | 1 => a
  | _ => a ++ b
def szJ (a b : Nat) : Nat → Nat
  | 0 => 0
  | 1 => a
  | _ => a + b
set_option maxRecDepth 100000 in
set_option maxHeartbeats 1000000 in
theorem concat_any (S : Nat → Prop) (g : Nat) (v1 v2 : Value) (l1 l2 : List (List UInt8)) (w : World) (h1 : StrAt w S v1 l1) (h2 : StrAt w S v2 l2) (hg : w.heap[g]? = some (.cells #[v1, v2] 49 (0, 0))) (hl : l1.length + l2.length ≤ 1000000) :
    Calls Tryz.prog 91 #[.slice (some ⟨g, 0, none⟩) 2 2] w fun e w' => (∃ v', e = .returned v' ∧ StrAt w' (fun b => w.heap.size ≤ b) v' (l1 ++ l2)) ∧ Below w.heap.size w w' := by
  have c0 := cell2_0 hg
  have c1 := cell2_1 hg
  have hgl := cell_lt hg
  obtain ⟨A1, k1, rfl⟩ := h1.form
  obtain ⟨A2, k2, rfl⟩ := h2.form
  have H1 := Lib.hid h1
  have H2 := Lib.hid h2
  clear h1 h2
  go_enter Tryz.func91, Tryz.ntmps91
  go_wp2_with (fail)
  go_loopw [3, 11] (fun sz iv wr => ∃ j : Nat, iv = .int .i64 (j : Int) ∧ j ≤ 2 ∧ sz = .int .i64 ((szJ l1.length l2.length j : Nat) : Int) ∧ wr = w) (fun _ iv _ => 2 - (intOf iv).toNat)
  case atStart => exact ⟨0, rfl, by omega, rfl, rfl⟩
  case round =>
    obtain ⟨j, rfl, hj, rfl, hw⟩ := hrel
    have hw' := hw.symm
    subst hw'
    rcases (show j = 0 ∨ j = 1 ∨ j = 2 by omega) with rfl | rfl | rfl
    · have e0 : szJ l1.length l2.length 0 = 0 := rfl
      rw [e0]
      go_wp2_with (fail)
      go_roundw
      case rel => exact ⟨1, by go_num, by omega, by go_num, trivial⟩
      case measure => simp [intOf]
    · have e0 : szJ l1.length l2.length 1 = l1.length := rfl
      rw [e0]
      go_wp2_with (fail)
      go_roundw
      case rel => exact ⟨2, by go_num, by omega, by go_num, trivial⟩
      case measure => simp [intOf]
    · have e0 : szJ l1.length l2.length 2 = l1.length + l2.length := rfl
      obtain ⟨n, hn⟩ : ∃ n, n = l1.length + l2.length := ⟨_, rfl⟩
      have HN := Lib.hid hn
      rw [e0, ← hn]
      have hn1 : n ≤ 1000000 := by omega
      clear hn e0
      go_wp2_with (fail)
      refine (grow_any n w (by omega)).mono ?_
      rintro e w2 ⟨v2, rfl, ho2, hb2⟩
      have HO2 := Lib.hid ho2
      have HB2 := Lib.hid hb2
      clear ho2 hb2
      go_wp2_with (fail)
      go_loopw [6, 27] (fun ns iv wq => ∃ j : Nat, iv = .int .i64 (j : Int) ∧ j ≤ 2 ∧ wq.ownsRow w.heap.size 9 1 ns (catJ l1 l2 j).length ((catJ l1 l2 j).map encStr) ∧ Hid (Below w.heap.size w wq)) (fun _ iv _ => 2 - (intOf iv).toNat)
      case atStart => exact ⟨0, rfl, by omega, HO2.out, HB2⟩
      case round =>
        obtain ⟨j, rfl, hj, ho, HB⟩ := hrel
        have HOW := Lib.hid ho
        have hsz := HB.out.size
        clear ho
        have k0 := (HB.out.cell (p := ⟨g, 0, none⟩) hgl).trans c0
        have k1 := (HB.out.cell (p := ⟨g, 1, none⟩) hgl).trans c1
        rcases (show j = 0 ∨ j = 1 ∨ j = 2 by omega) with rfl | rfl | rfl
        · go_wp2_with (at_builtin; refine wpList_append_strs rfl _ _ rfl w.heap.size _ (catJ l1 l2 0) l1 rfl HOW.out S _ rfl (H1.out.below HB.out) (by simp [catJ]; omega) hsz ?_; intro v7 w7 hown7 hgrow7 hat7)
          go_roundw
          case rel => exact ⟨1, by go_num, by omega, hown7, HB.out.grown hgrow7 hsz (fun k hk => (HOW.out.lt k hk).1)⟩
          case measure => simp [intOf]
        · go_wp2_with (at_builtin; refine wpList_append_strs rfl _ _ rfl w.heap.size _ (catJ l1 l2 1) l2 rfl HOW.out S _ rfl (H2.out.below HB.out) (by simp [catJ]; omega) hsz ?_; intro v7 w7 hown7 hgrow7 hat7)
          go_roundw
          case rel => exact ⟨2, by go_num, by omega, hown7, HB.out.grown hgrow7 hsz (fun k hk => (HOW.out.lt k hk).1)⟩
          case measure => simp [intOf]
        · go_wp2_with (fail)
          go_ret
          exact ⟨⟨_, rfl, StrAt.of_own HOW.out⟩, HB.out⟩
end Go.Proofs.YtadbnlnifacblaaGreatDoor
namespace Go.Proofs.YtadbnlnifacblaaGreatDoor
open Go.RowKit
def grpL : List (List UInt8) := [[], [101], [101, 101], [101, 101, 101], [108], [100], [116], [110, 101, 101], [101, 110, 101], [101, 101, 110, 110, 101]]
def lstL : List (List UInt8) := [[116, 114, 117, 101, 32, 102, 97, 108, 115, 101, 32, 105, 116], [110, 101, 103, 32, 110, 111, 116, 32, 102, 105, 114, 115, 116, 32, 115, 101, 99, 111, 110, 100, 32, 108, 101, 110, 32, 115, 111, 114, 116, 32, 115, 111, 109, 101, 32, 105, 115, 95, 115, 111, 109, 101, 32, 115, 105, 122, 101, 32, 98, 121, 116, 101, 115, 32, 116, 101, 120, 116, 32, 115, 104, 111, 119, 32, 114, 101, 32, 105, 109, 32, 99, 111, 110, 106, 32, 114, 97, 110, 103, 101], [97, 100, 100, 32, 115, 117, 98, 32, 109, 117, 108, 32, 100, 105, 118, 32, 109, 111, 100, 32, 101, 113, 32, 108, 116, 32, 97, 110, 100, 32, 111, 114, 32, 112, 97, 105, 114, 32, 99, 111, 110, 115, 32, 99, 111, 110, 99, 97, 116, 32, 97, 116, 32, 111, 114, 95, 101, 108, 115, 101, 32, 106, 111, 105, 110, 32, 112, 111, 105, 110, 116], [105, 102, 32, 99, 117, 116], [108, 105, 115, 116], [115, 105, 100, 101], [110, 105, 108, 32, 110, 111, 110, 101], [108, 101, 116], [109, 97, 112, 32, 102, 105, 108, 116, 101, 114], [102, 111, 108, 100]]
def scanP (l word : List UInt8) : Nat → Nat → Nat → Bool
  | 0, _, _ => false
  | f + 1, from_, k => if k = l.length ∨ lkB l k = 32 then (if (l.take k).drop from_ = word then true else scanP l word f (k + 1) (k + 1)) else scanP l word f from_ (k + 1)
def partsG (word : List UInt8) : List (List UInt8) → List (List UInt8) → Option (List UInt8)
  | l :: ls, g :: gs => if scanP l word (l.length + 1) 0 0 then some g else partsG word ls gs
  | _, _ => none
def partsD (word : List UInt8) : Option (List UInt8) := partsG word lstL grpL
def PdOut (e : Ending) : Option (List UInt8) → Prop
  | none => e = .returned (.tuple #[.string ⟨#[]⟩, .bool false])
  | some g => e = .returned (.tuple #[.string ⟨g.toArray⟩, .bool true])
theorem cell_block {w : World} {g i : Nat} {cs : Array Value} {t : TypeId} {u : Value} (h : w.heap[g]? = some (.cells cs t (0, 0))) (hi : cs[i]? = some u) : w.cell? ⟨g, i, none⟩ = some u := by
  simp [World.cell?, h, hi]
theorem lst_len : ∀ l ∈ lstL, l.length ≤ 100 := by decide +kernel
theorem grp_arr : (#[.string ⟨#[]⟩, .string ⟨#[101]⟩, .string ⟨#[101, 101]⟩, .string ⟨#[101, 101, 101]⟩, .string ⟨#[108]⟩, .string ⟨#[100]⟩, .string ⟨#[116]⟩, .string ⟨#[110, 101, 101]⟩, .string ⟨#[101, 110, 101]⟩, .string ⟨#[101, 101, 110, 110, 101]⟩] : Array Value) = (grpL.map fun g => Value.string ⟨g.toArray⟩).toArray := by rfl
theorem lst_arr : (#[.string ⟨#[116, 114, 117, 101, 32, 102, 97, 108, 115, 101, 32, 105, 116]⟩, .string ⟨#[110, 101, 103, 32, 110, 111, 116, 32, 102, 105, 114, 115, 116, 32, 115, 101, 99, 111, 110, 100, 32, 108, 101, 110, 32, 115, 111, 114, 116, 32, 115, 111, 109, 101, 32, 105, 115, 95, 115, 111, 109, 101, 32, 115, 105, 122, 101, 32, 98, 121, 116, 101, 115, 32, 116, 101, 120, 116, 32, 115, 104, 111, 119, 32, 114, 101, 32, 105, 109, 32, 99, 111, 110, 106, 32, 114, 97, 110, 103, 101]⟩, .string ⟨#[97, 100, 100, 32, 115, 117, 98, 32, 109, 117, 108, 32, 100, 105, 118, 32, 109, 111, 100, 32, 101, 113, 32, 108, 116, 32, 97, 110, 100, 32, 111, 114, 32, 112, 97, 105, 114, 32, 99, 111, 110, 115, 32, 99, 111, 110, 99, 97, 116, 32, 97, 116, 32, 111, 114, 95, 101, 108, 115, 101, 32, 106, 111, 105, 110, 32, 112, 111, 105, 110, 116]⟩, .string ⟨#[105, 102, 32, 99, 117, 116]⟩, .string ⟨#[108, 105, 115, 116]⟩, .string ⟨#[115, 105, 100, 101]⟩, .string ⟨#[110, 105, 108, 32, 110, 111, 110, 101]⟩, .string ⟨#[108, 101, 116]⟩, .string ⟨#[109, 97, 112, 32, 102, 105, 108, 116, 101, 114]⟩, .string ⟨#[102, 111, 108, 100]⟩] : Array Value) = (lstL.map fun g => Value.string ⟨g.toArray⟩).toArray := by rfl
theorem partsG_at (word : List UInt8) : ∀ (ls gs : List (List UInt8)) (i : Nat) (l g : List UInt8), ls[i]? = some l → gs[i]? = some g → partsG word (ls.drop i) (gs.drop i) = if scanP l word (l.length + 1) 0 0 then some g else partsG word (ls.drop (i + 1)) (gs.drop (i + 1))
  | [], _, i, _, _, h, _ => by simp at h
  | _ :: _, [], i, _, _, _, h => by simp at h
  | a :: ls, b :: gs, 0, l, g, h1, h2 => by
    simp only [List.getElem?_cons_zero, Option.some.injEq] at h1 h2
    subst h1; subst h2
    simp [partsG]
  | a :: ls, b :: gs, i + 1, l, g, h1, h2 => by
    simp only [List.getElem?_cons_succ] at h1 h2
    simpa using partsG_at word ls gs i l g h1 h2
set_option maxRecDepth 100000 in
set_option maxHeartbeats 4000000 in
theorem parts_any_d (x : List UInt8) (w : World) : Calls Tryz.prog 83 #[.string ⟨x.toArray⟩] w fun e w' => PdOut e (partsD x) ∧ Below w.heap.size w w' := by
  have hb1 := ((Below.refl w.heap.size w).alloc (Nat.le_refl _) (.cells #[.string ⟨#[]⟩, .string ⟨#[101]⟩, .string ⟨#[101, 101]⟩, .string ⟨#[101, 101, 101]⟩, .string ⟨#[108]⟩, .string ⟨#[100]⟩, .string ⟨#[116]⟩, .string ⟨#[110, 101, 101]⟩, .string ⟨#[101, 110, 101]⟩, .string ⟨#[101, 101, 110, 110, 101]⟩] 9)).alloc (by simp) (.cells #[.string ⟨#[116, 114, 117, 101, 32, 102, 97, 108, 115, 101, 32, 105, 116]⟩, .string ⟨#[110, 101, 103, 32, 110, 111, 116, 32, 102, 105, 114, 115, 116, 32, 115, 101, 99, 111, 110, 100, 32, 108, 101, 110, 32, 115, 111, 114, 116, 32, 115, 111, 109, 101, 32, 105, 115, 95, 115, 111, 109, 101, 32, 115, 105, 122, 101, 32, 98, 121, 116, 101, 115, 32, 116, 101, 120, 116, 32, 115, 104, 111, 119, 32, 114, 101, 32, 105, 109, 32, 99, 111, 110, 106, 32, 114, 97, 110, 103, 101]⟩, .string ⟨#[97, 100, 100, 32, 115, 117, 98, 32, 109, 117, 108, 32, 100, 105, 118, 32, 109, 111, 100, 32, 101, 113, 32, 108, 116, 32, 97, 110, 100, 32, 111, 114, 32, 112, 97, 105, 114, 32, 99, 111, 110, 115, 32, 99, 111, 110, 99, 97, 116, 32, 97, 116, 32, 111, 114, 95, 101, 108, 115, 101, 32, 106, 111, 105, 110, 32, 112, 111, 105, 110, 116]⟩, .string ⟨#[105, 102, 32, 99, 117, 116]⟩, .string ⟨#[108, 105, 115, 116]⟩, .string ⟨#[115, 105, 100, 101]⟩, .string ⟨#[110, 105, 108, 32, 110, 111, 110, 101]⟩, .string ⟨#[108, 101, 116]⟩, .string ⟨#[109, 97, 112, 32, 102, 105, 108, 116, 101, 114]⟩, .string ⟨#[102, 111, 108, 100]⟩] 9)
  have hG0 := (Below.heap_alloc (w.alloc (.cells #[.string ⟨#[]⟩, .string ⟨#[101]⟩, .string ⟨#[101, 101]⟩, .string ⟨#[101, 101, 101]⟩, .string ⟨#[108]⟩, .string ⟨#[100]⟩, .string ⟨#[116]⟩, .string ⟨#[110, 101, 101]⟩, .string ⟨#[101, 110, 101]⟩, .string ⟨#[101, 101, 110, 110, 101]⟩] 9)) (.cells #[.string ⟨#[116, 114, 117, 101, 32, 102, 97, 108, 115, 101, 32, 105, 116]⟩, .string ⟨#[110, 101, 103, 32, 110, 111, 116, 32, 102, 105, 114, 115, 116, 32, 115, 101, 99, 111, 110, 100, 32, 108, 101, 110, 32, 115, 111, 114, 116, 32, 115, 111, 109, 101, 32, 105, 115, 95, 115, 111, 109, 101, 32, 115, 105, 122, 101, 32, 98, 121, 116, 101, 115, 32, 116, 101, 120, 116, 32, 115, 104, 111, 119, 32, 114, 101, 32, 105, 109, 32, 99, 111, 110, 106, 32, 114, 97, 110, 103, 101]⟩, .string ⟨#[97, 100, 100, 32, 115, 117, 98, 32, 109, 117, 108, 32, 100, 105, 118, 32, 109, 111, 100, 32, 101, 113, 32, 108, 116, 32, 97, 110, 100, 32, 111, 114, 32, 112, 97, 105, 114, 32, 99, 111, 110, 115, 32, 99, 111, 110, 99, 97, 116, 32, 97, 116, 32, 111, 114, 95, 101, 108, 115, 101, 32, 106, 111, 105, 110, 32, 112, 111, 105, 110, 116]⟩, .string ⟨#[105, 102, 32, 99, 117, 116]⟩, .string ⟨#[108, 105, 115, 116]⟩, .string ⟨#[115, 105, 100, 101]⟩, .string ⟨#[110, 105, 108, 32, 110, 111, 110, 101]⟩, .string ⟨#[108, 101, 116]⟩, .string ⟨#[109, 97, 112, 32, 102, 105, 108, 116, 101, 114]⟩, .string ⟨#[102, 111, 108, 100]⟩] 9) w.heap.size (by simp)).trans (heap_alloc_new w (.cells #[.string ⟨#[]⟩, .string ⟨#[101]⟩, .string ⟨#[101, 101]⟩, .string ⟨#[101, 101, 101]⟩, .string ⟨#[108]⟩, .string ⟨#[100]⟩, .string ⟨#[116]⟩, .string ⟨#[110, 101, 101]⟩, .string ⟨#[101, 110, 101]⟩, .string ⟨#[101, 101, 110, 110, 101]⟩] 9))
  have hL0 : ((w.alloc (.cells #[.string ⟨#[]⟩, .string ⟨#[101]⟩, .string ⟨#[101, 101]⟩, .string ⟨#[101, 101, 101]⟩, .string ⟨#[108]⟩, .string ⟨#[100]⟩, .string ⟨#[116]⟩, .string ⟨#[110, 101, 101]⟩, .string ⟨#[101, 110, 101]⟩, .string ⟨#[101, 101, 110, 110, 101]⟩] 9)).alloc (.cells #[.string ⟨#[116, 114, 117, 101, 32, 102, 97, 108, 115, 101, 32, 105, 116]⟩, .string ⟨#[110, 101, 103, 32, 110, 111, 116, 32, 102, 105, 114, 115, 116, 32, 115, 101, 99, 111, 110, 100, 32, 108, 101, 110, 32, 115, 111, 114, 116, 32, 115, 111, 109, 101, 32, 105, 115, 95, 115, 111, 109, 101, 32, 115, 105, 122, 101, 32, 98, 121, 116, 101, 115, 32, 116, 101, 120, 116, 32, 115, 104, 111, 119, 32, 114, 101, 32, 105, 109, 32, 99, 111, 110, 106, 32, 114, 97, 110, 103, 101]⟩, .string ⟨#[97, 100, 100, 32, 115, 117, 98, 32, 109, 117, 108, 32, 100, 105, 118, 32, 109, 111, 100, 32, 101, 113, 32, 108, 116, 32, 97, 110, 100, 32, 111, 114, 32, 112, 97, 105, 114, 32, 99, 111, 110, 115, 32, 99, 111, 110, 99, 97, 116, 32, 97, 116, 32, 111, 114, 95, 101, 108, 115, 101, 32, 106, 111, 105, 110, 32, 112, 111, 105, 110, 116]⟩, .string ⟨#[105, 102, 32, 99, 117, 116]⟩, .string ⟨#[108, 105, 115, 116]⟩, .string ⟨#[115, 105, 100, 101]⟩, .string ⟨#[110, 105, 108, 32, 110, 111, 110, 101]⟩, .string ⟨#[108, 101, 116]⟩, .string ⟨#[109, 97, 112, 32, 102, 105, 108, 116, 101, 114]⟩, .string ⟨#[102, 111, 108, 100]⟩] 9)).heap[w.heap.size + 1]? = some (.cells #[.string ⟨#[116, 114, 117, 101, 32, 102, 97, 108, 115, 101, 32, 105, 116]⟩, .string ⟨#[110, 101, 103, 32, 110, 111, 116, 32, 102, 105, 114, 115, 116, 32, 115, 101, 99, 111, 110, 100, 32, 108, 101, 110, 32, 115, 111, 114, 116, 32, 115, 111, 109, 101, 32, 105, 115, 95, 115, 111, 109, 101, 32, 115, 105, 122, 101, 32, 98, 121, 116, 101, 115, 32, 116, 101, 120, 116, 32, 115, 104, 111, 119, 32, 114, 101, 32, 105, 109, 32, 99, 111, 110, 106, 32, 114, 97, 110, 103, 101]⟩, .string ⟨#[97, 100, 100, 32, 115, 117, 98, 32, 109, 117, 108, 32, 100, 105, 118, 32, 109, 111, 100, 32, 101, 113, 32, 108, 116, 32, 97, 110, 100, 32, 111, 114, 32, 112, 97, 105, 114, 32, 99, 111, 110, 115, 32, 99, 111, 110, 99, 97, 116, 32, 97, 116, 32, 111, 114, 95, 101, 108, 115, 101, 32, 106, 111, 105, 110, 32, 112, 111, 105, 110, 116]⟩, .string ⟨#[105, 102, 32, 99, 117, 116]⟩, .string ⟨#[108, 105, 115, 116]⟩, .string ⟨#[115, 105, 100, 101]⟩, .string ⟨#[110, 105, 108, 32, 110, 111, 110, 101]⟩, .string ⟨#[108, 101, 116]⟩, .string ⟨#[109, 97, 112, 32, 102, 105, 108, 116, 101, 114]⟩, .string ⟨#[102, 111, 108, 100]⟩] 9 (0, 0)) := heap_new_at (by simp)
  obtain ⟨w1, hw1⟩ : ∃ w1, w1 = (w.alloc (.cells #[.string ⟨#[]⟩, .string ⟨#[101]⟩, .string ⟨#[101, 101]⟩, .string ⟨#[101, 101, 101]⟩, .string ⟨#[108]⟩, .string ⟨#[100]⟩, .string ⟨#[116]⟩, .string ⟨#[110, 101, 101]⟩, .string ⟨#[101, 110, 101]⟩, .string ⟨#[101, 101, 110, 110, 101]⟩] 9)).alloc (.cells #[.string ⟨#[116, 114, 117, 101, 32, 102, 97, 108, 115, 101, 32, 105, 116]⟩, .string ⟨#[110, 101, 103, 32, 110, 111, 116, 32, 102, 105, 114, 115, 116, 32, 115, 101, 99, 111, 110, 100, 32, 108, 101, 110, 32, 115, 111, 114, 116, 32, 115, 111, 109, 101, 32, 105, 115, 95, 115, 111, 109, 101, 32, 115, 105, 122, 101, 32, 98, 121, 116, 101, 115, 32, 116, 101, 120, 116, 32, 115, 104, 111, 119, 32, 114, 101, 32, 105, 109, 32, 99, 111, 110, 106, 32, 114, 97, 110, 103, 101]⟩, .string ⟨#[97, 100, 100, 32, 115, 117, 98, 32, 109, 117, 108, 32, 100, 105, 118, 32, 109, 111, 100, 32, 101, 113, 32, 108, 116, 32, 97, 110, 100, 32, 111, 114, 32, 112, 97, 105, 114, 32, 99, 111, 110, 115, 32, 99, 111, 110, 99, 97, 116, 32, 97, 116, 32, 111, 114, 95, 101, 108, 115, 101, 32, 106, 111, 105, 110, 32, 112, 111, 105, 110, 116]⟩, .string ⟨#[105, 102, 32, 99, 117, 116]⟩, .string ⟨#[108, 105, 115, 116]⟩, .string ⟨#[115, 105, 100, 101]⟩, .string ⟨#[110, 105, 108, 32, 110, 111, 110, 101]⟩, .string ⟨#[108, 101, 116]⟩, .string ⟨#[109, 97, 112, 32, 102, 105, 108, 116, 101, 114]⟩, .string ⟨#[102, 111, 108, 100]⟩] 9) := ⟨_, rfl⟩
  rw [← hw1] at hb1 hG0 hL0
  have HB1 := Lib.hid hb1
  have HG : Hid (∀ (i : Nat) (g : List UInt8), grpL[i]? = some g → w1.cell? ⟨w.heap.size, i, none⟩ = some (.string ⟨g.toArray⟩)) := fun i g hg => cell_block hG0 (by rw [grp_arr]; simp [hg])
  have HL : Hid (∀ (i : Nat) (g : List UInt8), lstL[i]? = some g → w1.cell? ⟨w.heap.size + 1, i, none⟩ = some (.string ⟨g.toArray⟩)) := fun i g hg => cell_block hL0 (by rw [lst_arr]; simp [hg])
  have HW1 := Lib.hid hw1
  clear hb1 hG0 hL0 hw1
  go_enter Tryz.func83, Tryz.ntmps83
  go_wp2_with (fail)
  rw [← HW1.out]
  clear HW1
  go_loopw [6] (fun iv wr => ∃ i : Nat, iv = .int .i64 (i : Int) ∧ i ≤ 10 ∧ Hid (partsD x = partsG x (lstL.drop i) (grpL.drop i)) ∧ wr = w1) (fun iv _ => 10 - (intOf iv).toNat)
  case atStart => exact ⟨0, rfl, by omega, Lib.hid rfl, rfl⟩
  case round =>
    obtain ⟨i, rfl, hi, HP, hw⟩ := hrel
    subst hw
    obtain ⟨w1, hw1⟩ : ∃ w1, w1 = wr := ⟨_, rfl⟩
    subst hw1
    by_cases hlt : i < 10
    · obtain ⟨l, hl⟩ : ∃ l, lstL[i]? = some l := ⟨_, List.getElem?_eq_getElem (show i < lstL.length from hlt)⟩
      obtain ⟨g, hg⟩ : ∃ g, grpL[i]? = some g := ⟨_, List.getElem?_eq_getElem (show i < grpL.length from hlt)⟩
      have hll := lst_len l (List.mem_of_getElem? hl)
      have cG := HG.out i g hg
      have cL := HL.out i l hl
      have HP2 := Lib.hid (HP.out.trans (partsG_at x lstL grpL i l g hl hg))
      have hlsz : (ByteArray.mk l.toArray).size = l.length := by simp [ByteArray.size]
      obtain ⟨L, hLe⟩ : ∃ L, L = ByteArray.mk l.toArray := ⟨_, rfl⟩
      have hLb : bl L = l := by rw [hLe]; unfold bl; simp
      rw [← hLe] at cL hlsz
      have HLB := Lib.hid hLb
      have hil : ((i : Int) < 10) := by omega
      clear hl hg hLe hLb HP
      go_wp2_with (fail)
      go_loopw [7, 8] (fun fv kv wr => ∃ from_ k : Nat, fv = .int .i64 (from_ : Int) ∧ kv = .int .i64 (k : Int) ∧ from_ ≤ k ∧ k ≤ l.length + 1 ∧ Hid (scanP l x (l.length + 1) 0 0 = scanP l x (l.length + 1 - k) from_ k) ∧ wr = w1) (fun _ kv _ => 200 - (intOf kv).toNat)
      case atStart => exact ⟨0, 0, rfl, rfl, Nat.le_refl _, by omega, Lib.hid rfl, rfl⟩
      case round =>
        obtain ⟨fr, k, rfl, rfl, hfk, hk, HS, hw⟩ := hrel
        have hww := hw.symm
        subst hww
        by_cases hkl : k ≤ l.length
        · have gkl : ((k : Int) ≤ (L.size : Int)) := by omega
          by_cases hke : k = l.length
          · subst hke
            have hsep : l.length = l.length ∨ lkB l l.length = 32 := .inl rfl
            have hkl2 : l.length ≤ L.size := by omega
            have HSC : Hid (scanP l x (l.length + 1 - l.length) fr l.length = if (l.take l.length).drop fr = x then true else scanP l x (l.length + 1 - (l.length + 1)) (l.length + 1) (l.length + 1)) := by
              show _ = _
              rw [show l.length + 1 - l.length = (l.length + 1 - (l.length + 1)) + 1 by omega]
              rw [scanP, if_pos hsep]
            have hsl : ∀ W : World, (Instr.slice 9 (.string L) (some (.int .i64 (fr : Int))) (some (.int .i64 (l.length : Int))) none).run Tryz.prog W = .ok (.string ⟨((l.take l.length).drop fr).toArray⟩) W := by
              intro W
              have hex : L.extract fr l.length = ⟨((l.take l.length).drop fr).toArray⟩ := by
                rw [← str_bl (L.extract fr l.length), bl_extract L fr l.length (by omega), HLB.out]
              rw [← hex]
              go_simp
              all_goals (rw [if_pos ⟨by omega, by omega⟩])
            obtain ⟨u, hu⟩ : ∃ u, u = (l.take l.length).drop fr := ⟨_, rfl⟩
            rw [← hu] at hsl
            have HU := Lib.hid hu
            clear hu hsep
            rcases (Decidable.em (u = x)).symm with hux | hux
            · have gu : (u == x) = false := by simp [hux]
              have HS2 : Hid (scanP l x (l.length + 1) 0 0 = scanP l x (l.length + 1 - (l.length + 1)) (l.length + 1) (l.length + 1)) := by
                show _ = _
                rw [HS.out, HSC.out, ← HU.out, if_neg hux]
              clear hux
              go_wp2_with (fail)
              go_roundw
              case rel => exact ⟨l.length + 1, l.length + 1, by go_num, by go_num, Nat.le_refl _, by omega, HS2, trivial⟩
              case measure => simp [intOf]; omega
            · have gu : (u == x) = true := by simp [hux]
              have HR : Hid (partsD x = some g) := by
                show _ = _
                rw [HP2.out, HS.out, HSC.out, ← HU.out, if_pos hux, if_pos rfl]
              clear hux
              go_wp2_with (fail)
              go_ret2
              rw [HR.out]
              exact ⟨rfl, HB1.out⟩
          · have gke : ((k : Int) == (L.size : Int)) = false := by simp; omega
            have hix := str_index L k (by omega) (by omega)
            rw [← bl_at L k (by omega), HLB.out] at hix
            by_cases hsp : lkB l k = 32
            · have gsp : ((lkB l k).toNat : Int) = 32 := by rw [hsp]; rfl
              have hsep : k = l.length ∨ lkB l k = 32 := .inr hsp
              have hkl2 : k ≤ L.size := by omega
              rw [gsp] at hix
              clear hsp gsp
              have HSC : Hid (scanP l x (l.length + 1 - k) fr k = if (l.take k).drop fr = x then true else scanP l x (l.length + 1 - (k + 1)) (k + 1) (k + 1)) := by
                show _ = _
                rw [show l.length + 1 - k = (l.length + 1 - (k + 1)) + 1 by omega]
                rw [scanP, if_pos hsep]
              have hsl : ∀ W : World, (Instr.slice 9 (.string L) (some (.int .i64 (fr : Int))) (some (.int .i64 (k : Int))) none).run Tryz.prog W = .ok (.string ⟨((l.take k).drop fr).toArray⟩) W := by
                intro W
                have hex : L.extract fr k = ⟨((l.take k).drop fr).toArray⟩ := by
                  rw [← str_bl (L.extract fr k), bl_extract L fr k (by omega), HLB.out]
                rw [← hex]
                go_simp
                all_goals (rw [if_pos ⟨by omega, by omega⟩])
              obtain ⟨u, hu⟩ : ∃ u, u = (l.take k).drop fr := ⟨_, rfl⟩
              rw [← hu] at hsl
              have HU := Lib.hid hu
              clear hu hsep
              rcases (Decidable.em (u = x)).symm with hux | hux
              · have gu : (u == x) = false := by simp [hux]
                have HS2 : Hid (scanP l x (l.length + 1) 0 0 = scanP l x (l.length + 1 - (k + 1)) (k + 1) (k + 1)) := by
                  show _ = _
                  rw [HS.out, HSC.out, ← HU.out, if_neg hux]
                clear hux
                go_wp2_with (fail)
                go_roundw
                case rel => exact ⟨k + 1, k + 1, by go_num, by go_num, Nat.le_refl _, by omega, HS2, trivial⟩
                case measure => simp [intOf]; omega
              · have gu : (u == x) = true := by simp [hux]
                have HR : Hid (partsD x = some g) := by
                  show _ = _
                  rw [HP2.out, HS.out, HSC.out, ← HU.out, if_pos hux, if_pos rfl]
                clear hux
                go_wp2_with (fail)
                go_ret2
                rw [HR.out]
                exact ⟨rfl, HB1.out⟩
            · have gsp : (((lkB l k).toNat : Int) == 32) = false := by
                simp only [beq_eq_false_iff_ne, ne_eq]
                intro hh
                exact hsp (UInt8.toNat_inj.1 (by have h32 : (32 : UInt8).toNat = 32 := rfl; omega))
              have HS2 : Hid (scanP l x (l.length + 1) 0 0 = scanP l x (l.length + 1 - (k + 1)) fr (k + 1)) := by
                show _ = _
                rw [HS.out, show l.length + 1 - k = (l.length + 1 - (k + 1)) + 1 by omega]
                simp only [scanP]
                rw [if_neg (fun h => h.elim hke hsp)]
              clear hsp
              go_wp2_with (fail)
              go_roundw
              case rel => exact ⟨fr, k + 1, by first | rfl | trivial, by go_num, by omega, by omega, HS2, trivial⟩
              case measure => simp [intOf]; omega
        · have gkl : ¬ ((k : Int) ≤ (L.size : Int)) := by omega
          have HP3 : Hid (partsD x = partsG x (lstL.drop (i + 1)) (grpL.drop (i + 1))) := by
            show _ = _
            rw [HP2.out, HS.out, show l.length + 1 - k = 0 by omega]
            simp [scanP]
          clear hkl
          go_wp2_with (fail)
          go_roundw
          case rel => exact ⟨i + 1, by go_num, by omega, HP3, trivial⟩
          case measure => simp [intOf]; omega
    · have hil : ¬ ((i : Int) < 10) := by omega
      have HR : Hid (partsD x = none) := by
        show _ = _
        rw [HP.out, show i = 10 by omega]
        rfl
      go_wp2_with (fail)
      go_ret2
      rw [HR.out]
      exact ⟨rfl, HB1.out⟩
end Go.Proofs.YtadbnlnifacblaaGreatDoor
namespace Go.Proofs.YtadbnlnifacblaaGreatDoor
open Go.RowKit
theorem letter_d (b : UInt8) (w : World) : Calls Tryz.prog 120 #[.int .u8 (b.toNat : Int)] w fun e w' => e = .returned (.bool (isLet b)) ∧ w = w' := by
  by_cases h1 : 97 ≤ b.toNat
  · have g1 : decide ((97 : Int) ≤ (b.toNat : Int)) = true := by simp; omega
    have HF : Hid (isLet b = decide ((b.toNat : Int) ≤ 122)) := by show _ = _; unfold isLet; rw [decide_eq_true h1, Bool.true_and]; congr 1; apply propext; omega
    go_enter Tryz.func120, Tryz.ntmps120
    go_wp2
    go_ret
    rw [HF.out]
    exact ⟨rfl, rfl⟩
  · have g1 : decide ((97 : Int) ≤ (b.toNat : Int)) = false := by simp; omega
    have HF : Hid (isLet b = false) := by show _ = _; unfold isLet; rw [decide_eq_false h1, Bool.false_and]
    go_enter Tryz.func120, Tryz.ntmps120
    go_wp2
    go_ret
    rw [HF.out]
    exact ⟨rfl, rfl⟩
theorem digit_d (b : UInt8) (w : World) : Calls Tryz.prog 80 #[.int .u8 (b.toNat : Int)] w fun e w' => e = .returned (.bool (isDig b)) ∧ w = w' := by
  by_cases h1 : 48 ≤ b.toNat
  · have g1 : decide ((48 : Int) ≤ (b.toNat : Int)) = true := by simp; omega
    have HF : Hid (isDig b = decide ((b.toNat : Int) ≤ 57)) := by show _ = _; unfold isDig; rw [decide_eq_true h1, Bool.true_and]; congr 1; apply propext; omega
    go_enter Tryz.func80, Tryz.ntmps80
    go_wp2
    go_ret
    rw [HF.out]
    exact ⟨rfl, rfl⟩
  · have g1 : decide ((48 : Int) ≤ (b.toNat : Int)) = false := by simp; omega
    have HF : Hid (isDig b = false) := by show _ = _; unfold isDig; rw [decide_eq_false h1, Bool.false_and]
    go_enter Tryz.func80, Tryz.ntmps80
    go_wp2
    go_ret
    rw [HF.out]
    exact ⟨rfl, rfl⟩
def nmB (b : UInt8) : Bool := isLet b || isDig b || decide (b = 95)
def nameDoc (x : List UInt8) : Bool := decide (1 ≤ x.length) && decide (x.length ≤ 16) && isLet (lkB x 0) && x.all nmB && (partsD x).isNone
set_option maxRecDepth 100000 in
set_option maxHeartbeats 4000000 in
theorem name_d (x : List UInt8) (w : World) : Calls Tryz.prog 85 #[.string ⟨x.toArray⟩] w fun e w' => e = .returned (.bool (nameDoc x)) ∧ Below w.heap.size w w' := by
  have hlsz : (ByteArray.mk x.toArray).size = x.length := by simp [ByteArray.size]
  obtain ⟨L, hLe⟩ : ∃ L, L = ByteArray.mk x.toArray := ⟨_, rfl⟩
  have hLb : bl L = x := by rw [hLe]; unfold bl; simp
  have HPT : Hid (∀ W : World, Calls Tryz.prog 83 #[.string L] W fun e w' => PdOut e (partsD x) ∧ Below W.heap.size W w') := fun W => by rw [hLe]; exact parts_any_d x W
  rw [← hLe] at hlsz ⊢
  have HLB := Lib.hid hLb
  clear hLe hLb
  by_cases h1 : x.length < 1
  · have g1 : decide ((x.length : Int) < 1) = true := by simp; omega
    have g1' : ((L.size : Int) < 1) := by omega
    have HF : Hid (nameDoc x = false) := by show _ = _; unfold nameDoc; rw [decide_eq_false (by omega)]; rfl
    go_enter Tryz.func85, Tryz.ntmps85
    go_wp2_with (fail)
    go_ret
    rw [HF.out]
    exact ⟨rfl, Below.refl _ _⟩
  · have g1 : decide ((x.length : Int) < 1) = false := by simp; omega
    by_cases h2 : 16 < x.length
    · have g2 : decide ((16 : Int) < (x.length : Int)) = true := by simp; omega
      have HF : Hid (nameDoc x = false) := by show _ = _; unfold nameDoc; rw [decide_eq_false (show ¬ x.length ≤ 16 by omega)]; simp
      go_enter Tryz.func85, Tryz.ntmps85
      go_wp2_with (fail)
      go_ret
      rw [HF.out]
      exact ⟨rfl, Below.refl _ _⟩
    · have g2 : decide ((16 : Int) < (x.length : Int)) = false := by simp; omega
      have hix := str_index L 0 (by omega) (by omega)
      rw [← bl_at L 0 (by omega), HLB.out] at hix
      have HLT := Lib.hid (letter_d (lkB x 0) w)
      cases hlt : isLet (lkB x 0) with
      | false =>
        rw [hlt] at HLT
        have HF : Hid (nameDoc x = false) := by show _ = _; unfold nameDoc; rw [hlt]; simp
        clear hlt
        go_enter Tryz.func85, Tryz.ntmps85
        go_wp2_with (fail)
        rw [← bl_at L 0 (by omega), HLB.out]
        refine HLT.out.mono ?_
        rintro e w2 ⟨rfl, rfl⟩
        go_wp2_with (fail)
        go_ret
        rw [HF.out]
        exact ⟨rfl, Below.refl _ _⟩
      | true =>
        rw [hlt] at HLT
        have HF : Hid (nameDoc x = (x.all nmB && (partsD x).isNone)) := by
          show _ = _
          unfold nameDoc
          rw [hlt, decide_eq_true (show 1 ≤ x.length by omega), decide_eq_true (show x.length ≤ 16 by omega)]
          simp
        clear hlt
        go_enter Tryz.func85, Tryz.ntmps85
        go_wp2_with (fail)
        rw [← bl_at L 0 (by omega), HLB.out]
        refine HLT.out.mono ?_
        rintro e w2 ⟨rfl, rfl⟩
        clear HLT hix
        go_wp2_with (fail)
        go_loopw [3] (fun iv wr => ∃ j : Nat, iv = .int .i64 (j : Int) ∧ j ≤ x.length ∧ Hid ((x.take j).all nmB = true) ∧ wr = w) (fun iv _ => 20 - (intOf iv).toNat)
        case atStart => exact ⟨0, rfl, Nat.zero_le _, by show _ = _; simp, rfl⟩
        case round =>
          obtain ⟨j, rfl, hj, HA, hw⟩ := hrel
          have hww := hw.symm
          subst hww
          by_cases hjx : j < x.length
          · have hjl : ((j : Int) < (x.length : Int)) := by omega
            have hix := str_index L j (by omega) (by omega)
            rw [← bl_at L j (by omega), HLB.out] at hix
            have HLT := Lib.hid (letter_d (lkB x j) w)
            have HDG := Lib.hid (digit_d (lkB x j) w)
            have hta : (x.take (j + 1)).all nmB = ((x.take j).all nmB && nmB (lkB x j)) := by
              rw [List.take_add_one, List.getElem?_eq_getElem hjx, lkB_at hjx, List.all_append]
              simp only [Option.toList_some, List.all_cons, List.all_nil, Bool.and_true]
            have HTA := Lib.hid hta
            have hmem : lkB x j ∈ x := by rw [lkB_at hjx]; exact List.getElem_mem hjx
            have HNF : Hid (nmB (lkB x j) = false → nameDoc x = false) := fun h => by
              rw [HF.out]
              have : x.all nmB = false := by
                rw [List.all_eq_false]
                exact ⟨_, hmem, by rw [h]; simp⟩
              rw [this]; rfl
            clear hta hmem
            cases hl : isLet (lkB x j) with
            | true =>
              rw [hl] at HLT
              have HA2 : Hid ((x.take (j + 1)).all nmB = true) := by show _ = _; rw [HTA.out, HA.out]; unfold nmB; rw [hl]; rfl
              clear hl
              go_wp2_with (fail)
              refine HLT.out.mono ?_
              rintro e w2 ⟨rfl, rfl⟩
              go_wp2_with (fail)
              go_roundw
              case rel => exact ⟨j + 1, by go_num, by omega, HA2, trivial⟩
              case measure => simp [intOf]; omega
            | false =>
              rw [hl] at HLT
              cases hd : isDig (lkB x j) with
              | true =>
                rw [hd] at HDG
                have HA2 : Hid ((x.take (j + 1)).all nmB = true) := by show _ = _; rw [HTA.out, HA.out]; unfold nmB; rw [hl, hd]; rfl
                clear hl hd
                go_wp2_with (fail)
                refine HLT.out.mono ?_
                rintro e w2 ⟨rfl, rfl⟩
                go_wp2_with (fail)
                refine HDG.out.mono ?_
                rintro e w2 ⟨rfl, rfl⟩
                go_wp2_with (fail)
                go_roundw
                case rel => exact ⟨j + 1, by go_num, by omega, HA2, trivial⟩
                case measure => simp [intOf]; omega
              | false =>
                rw [hd] at HDG
                by_cases hu : lkB x j = 95
                · have gu : ((lkB x j).toNat : Int) = 95 := by rw [hu]; rfl
                  have HA2 : Hid ((x.take (j + 1)).all nmB = true) := by show _ = _; rw [HTA.out, HA.out]; unfold nmB; rw [hl, hd, hu]; rfl
                  rw [gu] at HLT HDG
                  clear hl hd hu
                  go_wp2_with (fail)
                  refine HLT.out.mono ?_
                  rintro e w2 ⟨rfl, rfl⟩
                  go_wp2_with (fail)
                  refine HDG.out.mono ?_
                  rintro e w2 ⟨rfl, rfl⟩
                  go_wp2_with (fail)
                  go_roundw
                  case rel => exact ⟨j + 1, by go_num, by omega, HA2, trivial⟩
                  case measure => simp [intOf]; omega
                · have gu : (((lkB x j).toNat : Int) != 95) = true := by
                    simp only [bne_iff_ne, ne_eq]
                    intro hh
                    exact hu (UInt8.toNat_inj.1 (by have h95 : (95 : UInt8).toNat = 95 := rfl; omega))
                  have HN : Hid (nameDoc x = false) := HNF.out (by unfold nmB; rw [hl, hd]; simp [hu])
                  clear hl hd hu
                  go_wp2_with (fail)
                  refine HLT.out.mono ?_
                  rintro e w2 ⟨rfl, rfl⟩
                  go_wp2_with (fail)
                  refine HDG.out.mono ?_
                  rintro e w2 ⟨rfl, rfl⟩
                  go_wp2_with (fail)
                  go_ret
                  rw [HN.out]
                  exact ⟨rfl, Below.refl _ _⟩
          · have hjl : ¬ ((j : Int) < (x.length : Int)) := by omega
            have HF2 : Hid (nameDoc x = (partsD x).isNone) := by
              show _ = _
              have := HA.out
              rw [show j = x.length by omega, List.take_length] at this
              rw [HF.out, this, Bool.true_and]
            have hsm : ∀ W : World, Below W.heap.size W W := fun W => Below.refl _ _
            go_wp2_with (fail)
            refine (HPT.out w).mono ?_
            rintro e w2 ⟨hout, hb2⟩
            have HB2 := Lib.hid hb2
            clear hb2
            revert hout HF2
            cases partsD x with
            | none =>
              intro HF2 hout
              obtain rfl : e = .returned (.tuple #[.string ⟨#[]⟩, .bool false]) := hout
              go_wp2_with (fail)
              go_ret
              rw [HF2.out]
              exact ⟨rfl, HB2.out⟩
            | some g =>
              intro HF2 hout
              obtain rfl : e = .returned (.tuple #[.string ⟨g.toArray⟩, .bool true]) := hout
              go_wp2_with (fail)
              go_ret
              rw [HF2.out]
              exact ⟨rfl, HB2.out⟩
end Go.Proofs.YtadbnlnifacblaaGreatDoor
