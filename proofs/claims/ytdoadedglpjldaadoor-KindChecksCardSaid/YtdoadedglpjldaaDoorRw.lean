import Derived.Test.YtdoadedglpjldaaDoorRd
import Derived.RegionTactic
import Derived.Outline
namespace Go.Proofs.YtdoadedglpjldaaDoor
open Go.RowKit

/-- The word that a text begins with, and how many of its bytes are read; none: how many bytes some word goes on with. -/
def readW (l : List Wd) (n : Nat) : List UInt8 → Nat × Option Wd
  | [] => (0, none)
  | b :: rest => match onW l n b with
    | [] => (0, none)
    | x :: l' => if n + 1 < x.name.size then ((readW (x :: l') (n + 1) rest).1 + 1, (readW (x :: l') (n + 1) rest).2) else (1, some x)

/-- The words that are left have the bytes that are read in common. -/
def St (l : List Wd) (n : Nat) : Prop := (∀ x ∈ l, x ∈ words ∧ n < x.name.size) ∧ ∀ x ∈ l, ∀ y ∈ l, x.name.data.toList.take n = y.name.data.toList.take n

theorem words_small : ∀ x ∈ words, 0 < x.name.size ∧ x.name.size ≤ 6 := by decide
theorem words_apart : ∀ x ∈ words, ∀ y ∈ words, x.name.data.toList = y.name.data.toList.take x.name.size → x.name.size = y.name.size := by decide

theorem St.start (room : Int) : St (fitW room words) 0 :=
  ⟨fun x hx => by have h := (List.mem_filter.1 hx).1; exact ⟨h, (words_small x h).1⟩, fun _ _ _ _ => by simp⟩

theorem St.step {l : List Wd} {n : Nat} {b : UInt8} {x : Wd} {l' : List Wd} (h : St l n) (ho : onW l n b = x :: l') (hx : n + 1 < x.name.size) : St (x :: l') (n + 1) := by
  have hm : ∀ y ∈ x :: l', y ∈ l ∧ y.name.data.toList[n]? = some b := fun y hy => by
    rw [← ho] at hy
    have := List.mem_filter.1 hy
    exact ⟨this.1, by simpa using this.2⟩
  have ht : ∀ y ∈ x :: l', y.name.data.toList.take (n + 1) = x.name.data.toList.take n ++ [b] := fun y hy => by
    obtain ⟨h1, h2⟩ := hm y hy
    rw [List.take_add_one, h2, h.2 y h1 x (hm x (List.mem_cons_self ..)).1]
    rfl
  refine ⟨fun y hy => ⟨(h.1 y (hm y hy).1).1, ?_⟩, fun y hy z hz => by rw [ht y hy, ht z hz]⟩
  have hy1 := h.1 y (hm y hy).1
  rcases Nat.lt_or_ge (n + 1) y.name.size with hlt | hge
  · exact hlt
  · have hs : y.name.size = n + 1 := by omega
    have hyl : y.name.data.toList.length = y.name.size := by simp
    have e : y.name.data.toList = x.name.data.toList.take y.name.size := by
      rw [hs, ht x (List.mem_cons_self ..), ← ht y hy, List.take_of_length_le (by omega)]
    have := words_apart y hy1.1 x (h.1 x (hm x (List.mem_cons_self ..)).1).1 e
    omega

def wdVal (x : Wd) : Value := .agg #[.int .i64 x.kind, .int .i64 x.args, .string x.name]
def zeroWd : Wd := ⟨0, 0, ⟨#[]⟩⟩

/-- What holds at the label: k bytes are read, these words are left. -/
structure RdInv (R : Nat) (s : ByteArray) (n : Nat) (l : List Wd) (w : World) (k : Nat) (lk : List Wd) (vk : Value) (w' : World) : Prop where
  st : St lk k
  rdr : Rdr w' R s (n + k)
  len : lk.length ≤ 100
  own : ∃ B, w'.ownsRow B 82 3 vk lk.length (flatW lk)
  only : Only R w w'
  cell : w'.heap[w.heap.size]? = some (.cells #[.int .i64 0, .int .i64 0, .string ⟨#[]⟩] 82 (0, 0))
  le : n + k ≤ s.size
  eq : readW l 0 (s.data.toList.drop n) = (k + (readW lk k (s.data.toList.drop (n + k))).1, (readW lk k (s.data.toList.drop (n + k))).2)

theorem cell_lt {w : World} {g : Nat} {o : Obj} (h : w.heap[g]? = some o) : g < w.heap.size := (Array.getElem?_eq_some_iff.1 h).1
theorem cell3_0 {w : World} {g : Nat} {a b c : Value} {t : TypeId} (h : w.heap[g]? = some (.cells #[a, b, c] t (0, 0))) : w.cell? ⟨g, 0, none⟩ = some a := by simp [World.cell?, h]
theorem cell3_1 {w : World} {g : Nat} {a b c : Value} {t : TypeId} (h : w.heap[g]? = some (.cells #[a, b, c] t (0, 0))) : w.cell? ⟨g, 1, none⟩ = some b := by simp [World.cell?, h]
theorem cell3_2 {w : World} {g : Nat} {a b c : Value} {t : TypeId} (h : w.heap[g]? = some (.cells #[a, b, c] t (0, 0))) : w.cell? ⟨g, 2, none⟩ = some c := by simp [World.cell?, h]
theorem cell3_f {w : World} {g : Nat} {cs : Array Value} {t : TypeId} (h : w.heap[g]? = some (.cells cs t (0, 0))) (i : Nat) : w.frozen? ⟨g, i, none⟩ = false := by simp [World.frozen?, h]

/-- A scope that is entered ahead of the one label that its jumps go to. -/
theorem wp_scope_enter {P : Program} {a : Act} {w : World} {Q : Exit → Act → World → Prop} {pre rest : Code} {l : Nat} (J : Act → World → Prop) (μ : Act → World → Nat)
    (hf : findLabel (pre.seq ((Code.label l).seq rest)) l = some (Code.skip.seq rest)) (first : pre.wp P (Exit.then J fun _ _ _ => False) a w)
    (pass : ∀ a w, J a w → rest.wp P (Exit.jump l (fun a' w' => J a' w' ∧ μ a' w' < μ a w) Q) a w) : (Code.scope (pre.seq ((Code.label l).seq rest))).wp P Q a w := by
  refine wp_scope_jumps l J μ hf ?_ (fun a w hJ => wp_seq (wp_skip (pass a w hJ)))
  refine wp_seq (wp_mono first fun e a1 w1 h => ?_)
  cases e with
  | normal =>
    refine wp_seq (wp_label ?_)
    refine wp_mono (pass a1 w1 h) fun e a2 w2 h2 => ?_
    cases e with
    | goto l' => exact ⟨h2.1, h2.2.1⟩
    | _ => exact h2
  | _ => exact h.elim

theorem rdr_three {R g : Nat} {s : ByteArray} {m : Nat} {w : World} (h : Rdr w R s m) (hg : R ≠ g) (a b c : Value) : Rdr (((w.setCell ⟨g, 0, none⟩ a).setCell ⟨g, 1, none⟩ b).setCell ⟨g, 2, none⟩ c) R s m :=
  ((h.kept (Below.heap_setCell w ⟨g, 0, none⟩ a R hg)).kept (Below.heap_setCell _ ⟨g, 1, none⟩ b R hg)).kept (Below.heap_setCell _ ⟨g, 2, none⟩ c R hg)
theorem only_far {R : Nat} {w w' : World} (h : Only R w w') {p : Addr} (hp : w.heap.size ≤ p.block) (u : Value) : Only R w (w'.setCell p u) :=
  ⟨h.os, h.tape, h.output, by simpa [World.setCell] using h.size, fun k hk hne => (Below.heap_setCell w' p u k (by omega)).trans (h.block k hk hne)⟩
theorem only_three {R : Nat} {w w' : World} (h : Only R w w') (a b c : Value) : Only R w (((w'.setCell ⟨w.heap.size, 0, none⟩ a).setCell ⟨w.heap.size, 1, none⟩ b).setCell ⟨w.heap.size, 2, none⟩ c) :=
  only_far (only_far (only_far h (Nat.le_refl _) _) (Nat.le_refl _) _) (Nat.le_refl _) _

set_option maxRecDepth 100000 in
set_option maxHeartbeats 1000000 in
theorem readWord_any (R : Nat) (s : ByteArray) (n : Nat) (B : Nat) (lv : Value) (l : List Wd) (w : World) (h : Rdr w R s n) (hs : s.size ≤ 1000000) (hn : n ≤ s.size) (hown : w.ownsRow B 82 3 lv l.length (flatW l)) (hst : St l 0) (hl : l.length ≤ 100) :
    Calls Tryd.prog 43 #[.pointer (some ⟨R, 0, none⟩), lv] w fun e w' => e = .returned (.tuple #[wdVal ((readW l 0 (s.data.toList.drop n)).2.getD zeroWd), .bool (readW l 0 (s.data.toList.drop n)).2.isSome]) ∧ Rdr w' R s (n + (readW l 0 (s.data.toList.drop n)).1) ∧ Only R w w' := by
  go_enter Tryd.func43, Tryd.ntmps43
  go_wp2
  refine wp_scope_enter (fun a' w' => ∃ (k : Nat) (lk : List Wd) (vk : Value) (u7 u8 u9 u10 u11 u12 u13 u14 u15 u16 u17 u18 u19 u20 u21 u22 u23 u24 u25 u26 u27 u28 u29 u30 u31 u32 u33 u34 u35 u36 u37 u38 u39 u40 u41 u42 u43 u44 u45 u46 u47 u48 u49 u50 u51 : Value), a' = { tmps := #[.pointer (some ⟨R, 0, none⟩), vk, undef, undef, .pointer (some ⟨w.heap.size, 0, none⟩), .bool false, .int .i64 (k : Int), u7, u8, u9, u10, u11, u12, u13, u14, u15, u16, u17, u18, u19, u20, u21, u22, u23, u24, u25, u26, u27, u28, u29, u30, u31, u32, u33, u34, u35, u36, u37, u38, u39, u40, u41, u42, u43, u44, u45, u46, u47, u48, u49, u50, u51], defers := [] } ∧ RdInv R s n l w k lk vk w') (fun a' _ => 100 - (intOf (a'.tmps.getD 6 undef)).toNat) rfl ?_ ?_
  · go_wp2
    exact ⟨0, l, lv, _, _, _, _, _, _, _, _, _, _, _, _, _, _, _, _, _, _, _, _, _, _, _, _, _, _, _, _, _, _, _, _, _, _, _, _, _, _, _, _, _, _, _, _, _, rfl, hst, h.kept (Below.heap_alloc w _ R h.lt), hl, ⟨B, hown.alloc _⟩, Only.of_below ((Below.refl _ _).alloc (Nat.le_refl _) _), heap_alloc_new w _, hn, by simp⟩
  · rintro a' w' ⟨k, lk, vk, u7, u8, u9, u10, u11, u12, u13, u14, u15, u16, u17, u18, u19, u20, u21, u22, u23, u24, u25, u26, u27, u28, u29, u30, u31, u32, u33, u34, u35, u36, u37, u38, u39, u40, u41, u42, u43, u44, u45, u46, u47, u48, u49, u50, u51, rfl, hI⟩
    obtain ⟨hst', hr, hlk, ⟨B', ho⟩, hon, hcell, hle, heq⟩ := hI
    obtain ⟨m, hm⟩ : ∃ m, m = n + k := ⟨_, rfl⟩
    rw [← hm] at hr hle heq
    have HM := Lib.hid hm
    have HEQ := Lib.hid heq
    clear hm heq
    have c0 := hr.c0
    have c1 := hr.c1
    have f1 := hr.f1
    have hRd := h.lt
    have hcl := cell_lt hcell
    by_cases hlt : m < s.size
    · go_wp2
      go_quiet (fail)
      have hr : Rdr (w'.drewN nq) R s m := hr
      have ho : (w'.drewN nq).ownsRow B' 82 3 vk lk.length (flatW lk) := ho
      have hon := hon.drewN nq
      have hcell : (w'.drewN nq).heap[w.heap.size]? = some (.cells #[.int .i64 0, .int .i64 0, .string ⟨#[]⟩] 82 (0, 0)) := hcell
      clear c0 c1 f1
      generalize w'.drewN nq = W at *
      have c0 := hr.c0
      have c1 := hr.c1
      have f1 := hr.f1
      go_wp2
      refine wp_region_still_tail 11 (by kernel_rfl) (by kernel_rfl) ?_
      simp only [List.take_succ_cons, List.take_zero, List.drop_succ_cons, List.drop_zero]
      change wpStill _ _ (World.drew _) _ _ _
      repeat still_step
      refine wpStill_nil ?_
      change wpList _ _ _ _ _ (World.drew _)
      go_wp2_with (fail)
      refine (goingOn_any lk B' vk k (s[m]) (W.drew) ho hlk (fun x hx => ⟨(hst'.1 x hx).2, by have := (words_small x (hst'.1 x hx).1).2; omega⟩)).mono ?_
      rintro e w1 ⟨v1, rfl, ho1, hb1⟩
      have hr1 : Rdr w1 R s m := hr.kept (hb1.block R hr.lt)
      have hcl2 := cell_lt hcell
      have hcell1 : w1.heap[w.heap.size]? = some (.cells #[.int .i64 0, .int .i64 0, .string ⟨#[]⟩] 82 (0, 0)) := (hb1.block _ hcl2).trans hcell
      have hon1 : Only R w w1 := hon.trans ((Only.refl R W).drewN 1 |>.trans (Only.of_below hb1))
      have hdrop := List.drop_eq_getElem_cons (l := s.data.toList) (i := m) (by simpa using hlt)
      have hget : s.data.toList[m]'(by simpa using hlt) = s[m] := rfl
      rw [hget] at hdrop
      have HDROP := Lib.hid hdrop
      have hWs : W.heap.size ≤ W.drew.heap.size := Nat.le_refl _
      clear c0 c1 f1 hr ho hcell hb1 hon hdrop hget
      have c0 := hr1.c0
      have c1 := hr1.c1
      have f1 := hr1.f1
      have d0 := cell3_0 hcell1
      have d1 := cell3_1 hcell1
      have d2 := cell3_2 hcell1
      have e0 := cell3_f hcell1 0
      have e1 := cell3_f hcell1 1
      have e2 := cell3_f hcell1 2
      cases hol : onW lk k s[m] with
      | nil =>
        rw [hol] at ho1
        have HE : Hid (readW l 0 (s.data.toList.drop n) = (k, none)) := by
          show _ = _
          rw [HEQ.out, HDROP.out]
          simp [readW, hol]
        clear hol
        rcases ho1.2 with ⟨rfl, _⟩ | ⟨g, cap, cur, rfl, _⟩
        · go_wp2
          simp only [Exit.jump]
          refine bodyPost_ret (v := .tuple #[.agg #[.int .i64 0, .int .i64 0, .string ⟨#[]⟩], .bool false]) (by simp [results, Tryd.results43, go_sem, d0, d1, d2]) rfl ?_
          rw [HE.out]
          exact ⟨rfl, by rw [← HM.out]; exact rdr_three hr1 (Nat.ne_of_lt hRd) _ _ _, only_three hon1 _ _ _⟩
        · simp only [List.length_nil]
          go_wp2
          simp only [Exit.jump]
          refine bodyPost_ret (v := .tuple #[.agg #[.int .i64 0, .int .i64 0, .string ⟨#[]⟩], .bool false]) (by simp [results, Tryd.results43, go_sem, d0, d1, d2]) rfl ?_
          rw [HE.out]
          exact ⟨rfl, by rw [← HM.out]; exact rdr_three hr1 (Nat.ne_of_lt hRd) _ _ _, only_three hon1 _ _ _⟩
      | cons x l' =>
        rw [hol] at ho1
        have hxl : x ∈ lk := (List.mem_filter.1 (show x ∈ onW lk k s[m] by rw [hol]; exact List.mem_cons_self ..)).1
        have hx6 := words_small x (hst'.1 x hxl).1
        have hxk := (hst'.1 x hxl).2
        have HOL := Lib.hid hol
        have hll := onW_le lk k s[m]
        rw [hol] at hll
        simp only [List.length_cons] at hll
        clear hol
        rcases ho1.2 with ⟨_, hno⟩ | ⟨g, cap, cur, rfl, _, hgh, hncap, hcapm, _⟩
        · simp at hno
        have hgR : g ≠ R := by
          rintro rfl
          rw [hr1] at hgh
          injection hgh with e1
          injection e1 with e1 e2 e3
          cases e2
        have hgW := (ho1.lt g rfl).1
        have hlx : 0 < (x :: l').length := by simp
        have k0 := ho1.cellAt 0 (by simp)
        have k1 := ho1.cellAt 1 (by simp; omega)
        have k2 := ho1.cellAt 2 (by simp; omega)
        simp only [flatW, List.getElem?_cons_zero, List.getElem?_cons_succ] at k0 k1 k2
        simp only [List.length_cons] at hncap ho1 ⊢
        clear hgh
        by_cases hks : k + 1 < x.name.size
        · have hks' : ((k : Int) + 1 < (x.name.size : Int)) := by omega
          go_wp2
          go_step3
          refine ⟨rfl, ⟨k + 1, x :: l', _, _, _, _, _, _, _, _, _, _, _, _, _, _, _, _, _, _, _, _, _, _, _, _, _, _, _, _, _, _, _, _, _, _, _, _, _, _, _, _, _, _, _, _, _, _, by rw [Int.natCast_add]; rfl, ?_⟩, ?_⟩
          · exact ⟨St.step hst' HOL.out hks, Rdr.set_ hr1 _ _ (by have := HM.out; omega), by simp; omega, ⟨_, ho1.kept (Only.set_ R 1 w1 _) (.inr (by simp [Value.ownBlock, hgR]))⟩, hon1.trans (Only.set_ R 1 w1 _), (Below.heap_setCell w1 ⟨R, 1, none⟩ _ _ (by show _ ≠ R; omega)).trans hcell1, by have := HM.out; omega, by
              rw [HEQ.out, HDROP.out, ← Nat.add_assoc, ← HM.out]
              simp only [readW, HOL.out, if_pos hks]
              rw [Nat.add_right_comm, Nat.add_assoc]⟩
          · simp [intOf]; omega
        · have hks' : ¬ ((k : Int) + 1 < (x.name.size : Int)) := by omega
          have HE : Hid (readW l 0 (s.data.toList.drop n) = (k + 1, some x)) := by
            show _ = _
            rw [HEQ.out, HDROP.out]
            simp only [readW, HOL.out, if_neg hks]
          have hr2 := Rdr.set_ hr1 ((m : Int) + 1) (m + 1) (by omega)
          have hon2 := hon1.trans (Only.set_ R 1 w1 (.int .i64 ((m : Int) + 1)))
          go_wp2
          simp only [Exit.jump]
          refine bodyPost_ret (v := .tuple #[wdVal x, .bool true]) (by simp [results, Tryd.results43, go_sem, d0, d1, d2, wdVal]) rfl ?_
          rw [HE.out]
          exact ⟨rfl, by rw [← Nat.add_assoc, ← HM.out]; exact rdr_three hr2 (Nat.ne_of_lt hRd) _ _ _, only_three hon2 _ _ _⟩
    · have d0 := cell3_0 hcell
      have d1 := cell3_1 hcell
      have d2 := cell3_2 hcell
      have e0 := cell3_f hcell 0
      have e1 := cell3_f hcell 1
      have e2 := cell3_f hcell 2
      have HE : Hid (readW l 0 (s.data.toList.drop n) = (k, none)) := by
        show _ = _
        rw [HEQ.out, List.drop_of_length_le (by simp; omega)]
        simp [readW]
      go_wp2
      go_quiet (fail)
      go_wp2
      simp only [Exit.jump]
      refine bodyPost_ret (v := .tuple #[.agg #[.int .i64 0, .int .i64 0, .string ⟨#[]⟩], .bool false]) (by simp [results, Tryd.results43, go_sem, d0, d1, d2]) rfl ?_
      rw [HE.out]
      exact ⟨rfl, by rw [← HM.out]; exact rdr_three (w := w'.drewN nq) hr (Nat.ne_of_lt hRd) _ _ _, only_three (hon.drewN nq) _ _ _⟩

end Go.Proofs.YtdoadedglpjldaaDoor
