/-
Ported from the texts of layer 2: Kc.
-/
import Derived.Test.YtadbnlnifacblaaGreatDoorKb
import Derived.Test.YtadbnlnifacblaaGreatDoorPe
import Derived.Test.YtadbnlnifacblaaGreatDoorKd
import Derived.Test.YtadbnlnifacblaaGreatDoorFt
namespace Go.Proofs.YtadbnlnifacblaaGreatDoor.Knd
open Go.RowKit
def parseT (l : List UInt8) : Nat × Option Ty :=
  match readT 6 l with
  | (k, none) => (k, none)
  | (k, some t) => if k < l.length then (k, none) else (0, some t)
def PaOut (w w' : World) (e : Ending) : Nat × Option Ty → Prop
  | (k, none) => e = .returned (.tuple #[.agg #[.int .i64 0, .slice none 0 0], .int .i64 (k : Int), .int .i64 40])
  | (_, some t) => ∃ v, e = .returned (.tuple #[v, .int .i64 0, .int .i64 0]) ∧ TyAt w' (fun b => w.heap.size ≤ b) 6 v t
theorem pa_cell {w w1 : World} {o : Obj} {cs : Array Value} {t : TypeId} (h : Only (w.heap.size + 1) ((w.alloc (.cells cs t)).alloc o) w1) : w1.heap[w.heap.size]? = some (.cells cs t (0, 0)) := by
  rw [h.block _ (by simp <;> omega) (by simp), Below.heap_alloc _ _ _ (by simp)]
  exact heap_alloc_new w _
theorem two_stored {w : World} {g : Nat} {a b : Value} {t : TypeId} (h : w.heap[g]? = some (.cells #[a, b] t (0, 0))) (c d : Value) : ((w.setCell ⟨g, 0, none⟩ c).setCell ⟨g, 1, none⟩ d).heap[g]? = some (.cells #[c, d] t (0, 0)) := by
  simp [World.setCell, Array.getElem?_modify, h]
theorem pa_below {w w1 : World} {o o' : Obj} (h : Only (w.heap.size + 1) ((w.alloc o).alloc o') w1) : Below w.heap.size w w1 :=
  (((Below.refl _ w).alloc (Nat.le_refl _) _).alloc (by simp) _).trans (h.below (by omega) (by simp <;> omega))
set_option maxRecDepth 100000 in
set_option maxHeartbeats 1000000 in
theorem parse_any (s : ByteArray) (w : World) (hs : s.size ≤ 1000000) (hG : Glob w) :
    Calls Tryz.prog 196 #[.string s] w fun e w' => PaOut w w' e (parseT s.data.toList) ∧ Below w.heap.size w w' := by
  have hGl := hG.lt
  have hrt := readT_le 6 s.data.toList
  simp only [Array.length_toList, ByteArray.size_data] at hrt
  go_enter Tryz.func196, Tryz.ntmps196
  go_wp2_with (fail)
  refine (readType_any 6 (w.heap.size + 1) s 0 _ (by omega) (by omega) (by unfold Rdr; simpa using heap_alloc_new (w.alloc _) _) hs (by omega) ((hG.kept (Below.heap_alloc w _ 0 hG.lt)).kept (Below.heap_alloc _ _ 0 (by simp <;> omega))) (by omega)).mono ?_
  rw [List.drop_zero, Nat.zero_add]
  cases hq : readT 6 s.data.toList with
  | mk k o =>
  rw [hq] at hrt
  have hsl : s.data.toList.length = s.size := by simp
  cases o with
  | none =>
    have HP : Hid (parseT s.data.toList = (k, none)) := by show _ = _; rw [parseT, hq]
    clear hq
    rintro e w1 ⟨v, rfl, hv, hr, hon⟩
    obtain rfl : v = .agg #[.int .i64 0, .slice none 0 0] := hv
    have hc := pa_cell hon
    have hb := pa_below hon
    have f0 := cell2_0 hc
    have f1 := cell2_1 hc
    have f2 := cell3_f hc 0
    have f3 := cell3_f hc 1
    have hcz := two_stored (two_stored hc (.int .i64 0) (.slice none 0 0)) (.int .i64 0) (.slice none 0 0)
    have z0 := cell2_0 hcz
    have z1 := cell2_1 hcz
    have r0 := hr.c0
    have r1 := hr.c1
    have rl := hr.lt
    go_wp2
    go_region
    all_goals
      go_wp2
      refine bodyPost_ret (v := .tuple #[.agg #[.int .i64 0, .slice none 0 0], .int .i64 (k : Int), .int .i64 40]) (by simp [results, Tryz.results196, go_sem, z0, z1]) rfl ?_
      rw [HP.out]
      refine ⟨rfl, ?_⟩
      first
        | exact (((hb.setCell (Nat.le_refl _) _).setCell (Nat.le_refl _) _).setCell (Nat.le_refl _) _).setCell (Nat.le_refl _) _
        | exact ((((hb.setCell (Nat.le_refl _) _).setCell (Nat.le_refl _) _).setCell (Nat.le_refl _) _).setCell (Nat.le_refl _) _).drew
  | some t =>
    have HP : Hid (parseT s.data.toList = if k < s.size then (k, none) else (0, some t)) := by show _ = _; rw [parseT, hq, hsl]
    clear hq
    rintro e w1 ⟨v, rfl, hv, hr, hon⟩
    obtain ⟨A, c, rfl⟩ := TyAt.form hv
    have HV := Lib.hid hv
    have hc := pa_cell hon
    have hb := pa_below hon
    have f0 := cell2_0 hc
    have f1 := cell2_1 hc
    have f2 := cell3_f hc 0
    have f3 := cell3_f hc 1
    have hcz := two_stored (two_stored hc (.int .i64 t.kind) (.slice A t.args.length c)) (.int .i64 0) (.slice none 0 0)
    have z0 := cell2_0 hcz
    have z1 := cell2_1 hcz
    have hcy := two_stored (two_stored hc (.int .i64 t.kind) (.slice A t.args.length c)) (.int .i64 t.kind) (.slice A t.args.length c)
    have y0 := cell2_0 hcy
    have y1 := cell2_1 hcy
    have r0 := hr.c0
    have r1 := hr.c1
    have rl := hr.lt
    clear hv
    by_cases hk : k < s.size
    · have HP2 : Hid (parseT s.data.toList = (k, none)) := by show _ = _; rw [HP.out, if_pos hk]
      go_wp2
      go_region
      all_goals
        go_wp2
        refine bodyPost_ret (v := .tuple #[.agg #[.int .i64 0, .slice none 0 0], .int .i64 (k : Int), .int .i64 40]) (by simp [results, Tryz.results196, go_sem, z0, z1]) rfl ?_
        rw [HP2.out]
        refine ⟨rfl, ?_⟩
        first
          | exact (((hb.setCell (Nat.le_refl _) _).setCell (Nat.le_refl _) _).setCell (Nat.le_refl _) _).setCell (Nat.le_refl _) _
          | exact ((((hb.setCell (Nat.le_refl _) _).setCell (Nat.le_refl _) _).setCell (Nat.le_refl _) _).setCell (Nat.le_refl _) _).drew
    · have HP2 : Hid (parseT s.data.toList = (0, some t)) := by show _ = _; rw [HP.out, if_neg hk]
      go_wp2
      refine bodyPost_ret (v := .tuple #[.agg #[.int .i64 t.kind, .slice A t.args.length c], .int .i64 0, .int .i64 0]) (by simp [results, Tryz.results196, go_sem, y0, y1]) rfl ?_
      rw [HP2.out]
      refine ⟨⟨_, rfl, TyAt.move (fun b hS hl => ?_) _ _ _ HV.out⟩, (((hb.setCell (Nat.le_refl _) _).setCell (Nat.le_refl _) _).setCell (Nat.le_refl _) _).setCell (Nat.le_refl _) _⟩
      have hS' : w.heap.size + 1 + 1 ≤ b := by simpa using hS
      exact ⟨by omega, fun o => World.cell?_of_block (by rw [Below.heap_setCell _ _ _ _ (by show b ≠ w.heap.size; omega), Below.heap_setCell _ _ _ _ (by show b ≠ w.heap.size; omega), Below.heap_setCell _ _ _ _ (by show b ≠ w.heap.size; omega), Below.heap_setCell _ _ _ _ (by show b ≠ w.heap.size; omega)])⟩
section
variable {α : Type} {l l' : List α} {a b : Nat}
theorem take_sub (h : l.take a = l'.take a) (hb : b ≤ a) : l.take b = l'.take b := by
  have := congrArg (List.take b) h
  rwa [List.take_take, List.take_take, Nat.min_eq_left hb] at this
theorem take_drops (h : l.take (a + b) = l'.take (a + b)) : (l.drop a).take b = (l'.drop a).take b := by
  have := congrArg (List.drop a) h
  rwa [List.drop_take, List.drop_take, Nat.add_sub_cancel_left] at this
theorem take_head (h : l.take (a + 1) = l'.take (a + 1)) : (l.drop a).head? = (l'.drop a).head? := by
  have h2 := congrArg (fun x => x[a]?) h
  rw [List.head?_drop, List.head?_drop]
  simpa [List.getElem?_take] using h2
end
theorem readW_none : ∀ (l l' : List UInt8) (lw : List Wd) (n k : Nat), readW lw n l = (k, none) → l.take (k + 1) = l'.take (k + 1) → readW lw n l' = (k, none)
  | [], l', lw, n, k, h, ht => by
    simp only [readW, Prod.mk.injEq] at h
    obtain ⟨rfl, _⟩ := h
    cases l' with
    | nil => rfl
    | cons b r => simp at ht
  | b :: rest, l', lw, n, k, h, ht => by
    cases l' with
    | nil => simp at ht
    | cons b' rest' =>
      simp only [List.take_succ_cons, List.cons.injEq] at ht
      obtain ⟨rfl, ht⟩ := ht
      unfold readW at h ⊢
      cases ho : onW lw n b with
      | nil => simp only [ho] at h ⊢; exact h
      | cons x l2 =>
        simp only [ho] at h ⊢
        split
        · rename_i hx
          rw [if_pos hx, Prod.mk.injEq] at h
          obtain ⟨h1, h2⟩ := h
          have := readW_none rest rest' (x :: l2) (n + 1) _ (Prod.ext rfl h2) (by rw [h1]; exact ht)
          rw [this, ← h1]
        · rename_i hx
          rw [if_neg hx] at h
          exact h
theorem readW_some : ∀ (l l' : List UInt8) (lw : List Wd) (n k : Nat) (x : Wd), readW lw n l = (k, some x) → l.take k = l'.take k → readW lw n l' = (k, some x)
  | [], l', lw, n, k, x, h, ht => by simp [readW] at h
  | b :: rest, l', lw, n, k, x, h, ht => by
    unfold readW at h
    cases ho : onW lw n b with
    | nil => simp [ho] at h
    | cons y l2 =>
      simp only [ho] at h
      split at h
      · rename_i hx
        rw [Prod.mk.injEq] at h
        obtain ⟨h1, h2⟩ := h
        subst h1
        cases l' with
        | nil => simp at ht
        | cons b' rest' =>
          simp only [List.take_succ_cons, List.cons.injEq] at ht
          obtain ⟨rfl, ht⟩ := ht
          have := readW_some rest rest' (y :: l2) (n + 1) _ x (Prod.ext rfl h2) ht
          have e : readW lw n (b :: rest') = ((readW (y :: l2) (n + 1) rest').1 + 1, (readW (y :: l2) (n + 1) rest').2) := by
            rw [readW]
            simp only [ho, if_pos hx]
          rw [e, this]
      · rename_i hx
        rw [Prod.mk.injEq] at h
        obtain ⟨h1, h2⟩ := h
        subst h1
        cases l' with
        | nil => simp at ht
        | cons b' rest' =>
          simp only [List.take_succ_cons, List.cons.injEq] at ht
          obtain ⟨rfl, ht⟩ := ht
          unfold readW
          simp only [ho, if_neg hx, h2]
def Loc {α : Type} (f : List UInt8 → Nat × Option α) : Prop :=
  ∀ l l', (∀ k, f l = (k, none) → l.take (k + 1) = l'.take (k + 1) → f l' = (k, none)) ∧ (∀ k x, f l = (k, some x) → l.take k = l'.take k → f l' = (k, some x))
theorem readArgs_ge (rt : List UInt8 → Nat × Option Ty) (l : List UInt8) : ∀ (left i k : Nat) (acc : List Ty), k ≤ (readArgs rt l left i k acc).1
  | 0, _, k, _ => Nat.le_refl k
  | left + 1, i, k, acc => by
    unfold readArgs
    split
    · split
      · simp only; omega
      · rename_i m a _
        have := readArgs_ge rt l left (i + 1) (k + 1 + m) (acc ++ [a])
        omega
    · exact Nat.le_refl k
theorem readArgs_loc (rt : List UInt8 → Nat × Option Ty) (hrt : Loc rt) (l l' : List UInt8) : ∀ (left i k : Nat) (acc : List Ty),
    (∀ m, readArgs rt l left i k acc = (m, none) → l.take (m + 1) = l'.take (m + 1) → readArgs rt l' left i k acc = (m, none)) ∧
    (∀ m x, readArgs rt l left i k acc = (m, some x) → l.take m = l'.take m → readArgs rt l' left i k acc = (m, some x))
  | 0, _, k, acc => ⟨fun m h _ => h, fun m x h _ => h⟩
  | left + 1, i, k, acc => by
    unfold readArgs
    by_cases hh : (l.drop k).head? = some (aheadB i)
    · simp only [if_pos hh]
      cases hr : rt (l.drop (k + 1)) with
      | mk q o =>
        cases o with
        | none =>
          refine ⟨fun m h ht => ?_, fun m x h ht => by simp at h⟩
          simp only [Prod.mk.injEq] at h
          obtain ⟨rfl, _⟩ := h
          have hh' : (l'.drop k).head? = some (aheadB i) := by rw [← take_head (take_sub ht (by omega)), hh]
          have hr' := (hrt (l.drop (k + 1)) (l'.drop (k + 1))).1 q hr (take_drops (by rw [← Nat.add_assoc]; exact ht))
          rw [if_pos hh', hr']
        | some a =>
          have hih := readArgs_loc rt hrt l l' left (i + 1) (k + 1 + q) (acc ++ [a])
          have hge := readArgs_ge rt l left (i + 1) (k + 1 + q) (acc ++ [a])
          have key : ∀ m, k + 1 + q ≤ m → l.take m = l'.take m → (l'.drop k).head? = some (aheadB i) ∧ rt (l'.drop (k + 1)) = (q, some a) := fun m hm ht =>
            ⟨by rw [← take_head (take_sub ht (by omega)), hh], (hrt _ (l'.drop (k + 1))).2 q a hr (take_drops (take_sub ht hm))⟩
          refine ⟨fun m h ht => ?_, fun m x h ht => ?_⟩
          · simp only at h
            have hm : k + 1 + q ≤ m := by rw [h] at hge; exact hge
            obtain ⟨h1, h2⟩ := key (m + 1) (by omega) ht
            rw [if_pos h1, h2]
            exact hih.1 m h ht
          · simp only at h
            have hm : k + 1 + q ≤ m := by rw [h] at hge; exact hge
            obtain ⟨h1, h2⟩ := key m hm ht
            rw [if_pos h1, h2]
            exact hih.2 m x h ht
    · simp only [if_neg hh]
      refine ⟨fun m h ht => ?_, fun m x h ht => by simp at h⟩
      simp only [Prod.mk.injEq] at h
      obtain ⟨rfl, _⟩ := h
      rw [if_neg (by rw [← take_head ht]; exact hh)]
theorem readEnd_ge (x : Wd) (l : List UInt8) (p : Nat × Option (List Ty)) : p.1 ≤ (readEnd x l p).1 := by
  obtain ⟨k, o⟩ := p
  cases o with
  | none => exact Nat.le_refl k
  | some l2 =>
    simp only [readEnd]
    split
    · split <;> simp
    · exact Nat.le_refl k
theorem readT_loc : ∀ r : Nat, Loc (readT r)
  | 0, l, l' => ⟨fun k h _ => h, fun k x h _ => by simp [readT] at h⟩
  | r + 1, l, l' => by
    have hA := fun (x : Wd) (k : Nat) => readArgs_loc (readT r) (readT_loc r) l l' x.args.toNat 0 k []
    unfold readT
    cases hw : readW (fitW (r + 1 : Nat) words) 0 l with
    | mk k o =>
      cases o with
      | none =>
        refine ⟨fun m h ht => ?_, fun m x h ht => by simp at h⟩
        simp only [Prod.mk.injEq] at h
        obtain ⟨rfl, _⟩ := h
        rw [readW_none l l' _ 0 k hw ht]
      | some x =>
        have hge := readArgs_ge (readT r) l x.args.toNat 0 k []
        have hge2 := readEnd_ge x l (readArgs (readT r) l x.args.toNat 0 k [])
        have hAx := hA x k
        simp only
        cases hp : readArgs (readT r) l x.args.toNat 0 k [] with
        | mk m o =>
          rw [hp] at hge hge2 hAx
          simp only at hge
          cases o with
          | none =>
            refine ⟨fun m' h ht => ?_, fun m' y h ht => by simp [readEnd] at h⟩
            simp only [readEnd, Prod.mk.injEq] at h
            obtain ⟨rfl, _⟩ := h
            rw [readW_some l l' _ 0 k x hw (take_sub ht (by omega))]
            simp only
            rw [hAx.1 m rfl ht, readEnd]
          | some l2 =>
            simp only [readEnd]
            by_cases hp0 : 0 < x.args
            · simp only [if_pos hp0]
              by_cases hh : (l.drop m).head? = some 41
              · simp only [if_pos hh]
                refine ⟨fun m' h ht => by simp at h, fun m' y h ht => ?_⟩
                simp only [Prod.mk.injEq] at h
                obtain ⟨rfl, h2⟩ := h
                rw [readW_some l l' _ 0 k x hw (take_sub ht (by omega))]
                simp only
                rw [hAx.2 m l2 rfl (take_sub ht (by omega))]
                simp only
                rw [if_pos hp0, if_pos (by rw [← take_head ht]; exact hh), h2]
              · simp only [if_neg hh]
                refine ⟨fun m' h ht => ?_, fun m' y h ht => by simp at h⟩
                simp only [Prod.mk.injEq] at h
                obtain ⟨rfl, _⟩ := h
                rw [readW_some l l' _ 0 k x hw (take_sub ht (by omega))]
                simp only
                rw [hAx.2 m l2 rfl (take_sub ht (by omega))]
                simp only
                rw [if_pos hp0, if_neg (by rw [← take_head ht]; exact hh)]
            · simp only [if_neg hp0]
              refine ⟨fun m' h ht => by simp at h, fun m' y h ht => ?_⟩
              simp only [Prod.mk.injEq] at h
              obtain ⟨rfl, h2⟩ := h
              rw [readW_some l l' _ 0 k x hw (take_sub ht (by omega))]
              simp only
              rw [hAx.2 m l2 rfl ht]
              simp only
              rw [if_neg hp0, h2]
theorem parseT_bad {l : List UInt8} {k : Nat} (h : parseT l = (k, none)) :
    k ≤ l.length ∧ (parseT (l.take k) = (k, none) ∨ ∃ t, parseT (l.take k) = (0, some t)) ∧ (k < l.length → ∀ m, parseT (l.take (k + 1) ++ m) = (k, none)) := by
  have hle := readT_le 6 l
  unfold parseT at h
  cases hr : readT 6 l with
  | mk q o =>
    rw [hr] at h hle
    simp only at hle
    cases o with
    | none =>
      simp only [Prod.mk.injEq] at h
      obtain ⟨rfl, _⟩ := h
      refine ⟨hle, .inl ?_, fun hlt m => ?_⟩
      · have hle2 := readT_le 6 (l.take q)
        rw [List.length_take, Nat.min_eq_left hle] at hle2
        cases hr2 : readT 6 (l.take q) with
        | mk j o2 =>
          rw [hr2] at hle2
          simp only at hle2
          cases o2 with
          | some t =>
            have := (readT_loc 6 (l.take q) l).2 j t hr2 (by rw [List.take_take, Nat.min_eq_left hle2])
            rw [hr] at this
            simp at this
          | none =>
            rcases Nat.lt_or_ge j q with hlt | hge
            · have := (readT_loc 6 (l.take q) l).1 j hr2 (by rw [List.take_take, Nat.min_eq_left (by omega)])
              rw [hr] at this
              simp only [Prod.mk.injEq] at this
              omega
            · obtain rfl : j = q := by omega
              unfold parseT
              rw [hr2]
      · have := (readT_loc 6 l (l.take (q + 1) ++ m)).1 q hr (by rw [List.take_append_of_le_length (by rw [List.length_take]; omega), List.take_take, Nat.min_self])
        unfold parseT
        rw [this]
    | some t =>
      simp only at h
      split at h
      · rename_i hlt
        simp only [Prod.mk.injEq] at h
        obtain ⟨rfl, _⟩ := h
        refine ⟨hle, .inr ⟨t, ?_⟩, fun _ m => ?_⟩
        · have := (readT_loc 6 l (l.take q)).2 q t hr (by rw [List.take_take, Nat.min_self])
          unfold parseT
          rw [this]
          simp only
          rw [if_neg (by rw [List.length_take]; omega)]
        · have := (readT_loc 6 l (l.take (q + 1) ++ m)).2 q t hr (by rw [List.take_append_of_le_length (by rw [List.length_take]; omega), List.take_take, Nat.min_eq_left (by omega)])
          unfold parseT
          rw [this]
          simp only
          rw [if_pos (by rw [List.length_append, List.length_take]; omega)]
      · simp at h
end Go.Proofs.YtadbnlnifacblaaGreatDoor.Knd
namespace Go.Proofs.YtadbnlnifacblaaGreatDoor
open Go.RowKit
theorem kp_le : ∀ x k, Knd.parseT x = (k, none) → k ≤ x.length := fun _ _ h => (Knd.parseT_bad h).1
theorem kp_ok : KpOk Knd.parseT := by
  refine ⟨kp_le, fun x x' k h hs => ?_, fun x k h => ?_⟩
  · obtain ⟨h1, _, h3⟩ := Knd.parseT_bad h
    rcases Nat.lt_or_ge k x.length with hlt | hge
    · have e : x' = x.take (k + 1) ++ x'.drop (k + 1) := by
        have e1 : x'.take (k + 1) = x.take (k + 1) := by
          apply List.ext_getElem?
          intro j
          rw [List.getElem?_take, List.getElem?_take]
          split
          · exact hs j (by omega)
          · rfl
        rw [← e1, List.take_append_drop]
      rw [e]
      exact h3 hlt _
    · have hk : k = x.length := by omega
      have hnone : x'[k]? = none := by rw [hs k (Nat.le_refl _), List.getElem?_eq_none_iff]; omega
      have hl' := List.getElem?_eq_none_iff.1 hnone
      have e : x' = x := by
        apply List.ext_getElem?
        intro j
        rcases Nat.lt_or_ge j (k + 1) with hj | hj
        · exact hs j (by omega)
        · have e1 : x'[j]? = none := List.getElem?_eq_none_iff.2 (by omega)
          have e2 : x[j]? = none := List.getElem?_eq_none_iff.2 (by omega)
          rw [e1, e2]
      rw [e]
      exact h
  · rcases (Knd.parseT_bad h).2.1 with h | ⟨t, h⟩
    · exact .inr h
    · exact .inl ⟨_, t, h⟩
theorem bl_from (s : ByteArray) (m : Nat) : (s.extract m s.size).data.toList = (bl s).drop m := by
  unfold bl
  simp [ByteArray.data_extract, Array.toList_extract, List.extract, List.take_of_length_le]
theorem bl_to (s : ByteArray) (k : Nat) : (s.extract 0 k).data.toList = (bl s).take k := by
  unfold bl
  simp [ByteArray.data_extract, Array.toList_extract, List.extract]
theorem bl_data (s : ByteArray) : s.data.toList = bl s := rfl
set_option maxRecDepth 100000 in
set_option maxHeartbeats 4000000 in
theorem readType_any (R : Nat) (s : ByteArray) (m : Nat) (w : World) (hR : 0 < R) (hG : Knd.Glob w) (h : Rdr w R s m) :
    Calls Tryz.prog 182 #[.pointer (some ⟨R, 0, none⟩)] w fun e w' => TOut R s w e w' (typR Knd.parseT (bl s) m) := by
  have hGl := hG.lt
  have hlen := h.len
  have hle := h.le
  have hRl := h.lt
  have c0 := cell2_0 h.box
  have c1 := cell2_1 h.box
  have HR := Lib.hid h
  have HG := Lib.hid hG
  obtain ⟨rs, hrs⟩ : ∃ rs, rs = s.extract m s.size := ⟨_, rfl⟩
  have hrz : rs.size = s.size - m := by rw [hrs]; simp
  have HRB : Hid (rs.data.toList = (bl s).drop m) := by show _ = _; rw [hrs, bl_from]
  clear h hG
  go_enter Tryz.func182, Tryz.ntmps182
  go_wp2_with (fail)
  go_quiet ((fail))
  rw [← hrs]
  go_wp2_with (fail)
  have hb1 : Below w.heap.size w ((w.alloc (.cells #[.int .i64 0, .slice none 0 0] 24)).drewN nq) := below_drewN ((Below.refl _ _).alloc (Nat.le_refl _) _) _
  have HC : Hid (((w.alloc (.cells #[.int .i64 0, .slice none 0 0] 24)).drewN nq).heap[w.heap.size]? = some (.cells #[.int .i64 0, .slice none 0 0] 24 (0, 0))) := heap_alloc_new w _
  have hs1 : ((w.alloc (.cells #[.int .i64 0, .slice none 0 0] 24)).drewN nq).heap.size = w.heap.size + 1 := by show (w.alloc _).heap.size = _; simp
  rw [← hrs]
  generalize (w.alloc (.cells #[.int .i64 0, .slice none 0 0] 24)).drewN nq = w1 at *
  have HG1 := Lib.hid (HG.out.kept (hb1.block 0 hGl))
  have HR1 := Lib.hid (HR.out.below hb1)
  refine (Knd.parse_any rs w1 (by omega) HG1.out).mono ?_
  rw [HRB.out]
  cases hp : Knd.parseT ((bl s).drop m) with
  | mk k o =>
  cases o with
  | some t =>
    have HF : Hid (typR Knd.parseT (bl s) m = (s.size, some t)) := by show _ = _; unfold typR; rw [hp, bl_length]
    clear hp
    rintro e w2 ⟨⟨v, rfl, hT⟩, hb2⟩
    obtain ⟨A, c, rfl⟩ := hT.form
    have HT := Lib.hid hT
    have HR2 := Lib.hid (HR1.out.below hb2)
    have HO2 : Hid (Only R w w2) := (Only.of_below hb1).trans (Only.of_below hb2)
    have HC2 := Lib.hid ((hb2.block w.heap.size (by omega)).trans HC.out)
    have x0 := cell2_0 HR2.out.box
    have x1 := cell2_1 HR2.out.box
    have xf := cell3_f HR2.out.box 1
    have y0 := cell2_0 HC2.out
    have y1 := cell2_1 HC2.out
    have yf0 := cell3_f HC2.out 0
    have yf1 := cell3_f HC2.out 1
    have hl2 := cell_lt HC2.out
    have hl3 := cell_lt HR2.out.box
    clear hT hb2 c0 c1
    go_wp2_with (fail)
    refine bodyPost_ret (v := .tuple #[.agg #[.int .i64 t.kind, .slice A t.args.length c], .bool true]) (by simp [results, Tryz.results182, go_sem, y0, y1, hl2]) rfl ?_
    rw [HF.out]
    have hoo := HO2.out
    have hrr := HR2.out.go s.size (Nat.le_refl _)
    refine ⟨t.kind, A, t.args.length, c, true, rfl, ?_, ?_, rfl, fun t' ht => ?_⟩
    · refine Only.more (Only.far (p := ⟨w.heap.size, 1, none⟩) (Nat.le_refl _) (Only.far (p := ⟨w.heap.size, 0, none⟩) (Nat.le_refl _) (hoo.trans (Only.set_ R 1 w2 _))))
    · exact Rdr.more (Rdr.far (p := ⟨w.heap.size, 1, none⟩) (by show R ≠ w.heap.size; omega) (Rdr.far (p := ⟨w.heap.size, 0, none⟩) (by show R ≠ w.heap.size; omega) hrr))
    · cases ht
      refine ⟨rfl, rfl, 6, TyAt.move (fun b hb hl => ?_) _ _ _ HT.out⟩
      have hb' : w.heap.size + 1 ≤ b := by omega
      refine ⟨by omega, fun o => World.cell?_of_block ?_⟩
      rw [Below.heap_alloc _ _ _ (by simp only [setCell_heap_size]; exact hl), Below.heap_setCell _ _ _ _ (by show b ≠ w.heap.size; omega), Below.heap_setCell _ _ _ _ (by show b ≠ w.heap.size; omega), Below.heap_setCell _ _ _ _ (by show b ≠ R; omega)]
  | none =>
    have hk := (Knd.parseT_bad hp).1
    rw [List.length_drop, bl_length] at hk
    have HP := Lib.hid hp
    clear hp
    rintro e w2 ⟨he, hb2⟩
    obtain rfl : e = .returned (.tuple #[.agg #[.int .i64 0, .slice none 0 0], .int .i64 (k : Int), .int .i64 40]) := he
    have HR2 := Lib.hid (HR1.out.below hb2)
    have HO2 : Hid (Only R w w2) := (Only.of_below hb1).trans (Only.of_below hb2)
    have HC2 := Lib.hid ((hb2.block w.heap.size (by omega)).trans HC.out)
    have x0 := cell2_0 HR2.out.box
    have x1 := cell2_1 HR2.out.box
    have xf := cell3_f HR2.out.box 1
    have hl2 := cell_lt HC2.out
    have hl3 := cell_lt HR2.out.box
    clear hb2 c0 c1
    have hkk : (k : Int) ≤ (rs.size : Int) := by omega
    go_wp2_with (fail)
    rw [← hrs]
    obtain ⟨u, hu⟩ : ∃ u, u = rs.extract 0 k := ⟨_, rfl⟩
    have huz : u.size ≤ 1000000 := by rw [hu]; simp; omega
    have HUB : Hid (u.data.toList = ((bl s).drop m).take k) := by show _ = _; rw [hu, bl_to, ← bl_data, HRB.out]
    have HR3 : Hid (Rdr (w2.setCell ⟨R, 1, none⟩ (.int .i64 ((m : Int) + (k : Int)))) R s (m + k)) := by
      have := HR2.out.go (m + k) (by omega)
      rw [Int.natCast_add] at this
      exact this
    have HO3 := Lib.hid (HO2.out.trans (Only.set_ R 1 w2 (.int .i64 ((m : Int) + (k : Int)))))
    have HC3 := Lib.hid ((Below.heap_setCell w2 ⟨R, 1, none⟩ (.int .i64 ((m : Int) + (k : Int))) w.heap.size (by show w.heap.size ≠ R; omega)).trans HC2.out)
    rw [← hu]
    clear hu x0 x1 xf
    have hw3s : (w2.setCell ⟨R, 1, none⟩ (.int .i64 ((m : Int) + (k : Int)))).heap.size = w2.heap.size := by simp
    generalize w2.setCell ⟨R, 1, none⟩ (.int .i64 ((m : Int) + (k : Int))) = w3 at *
    have hs3 := HO3.out.size
    have HG3 := Lib.hid (HG.out.kept (HO3.out.block 0 hGl (by simp <;> omega)))
    have HR4 := Lib.hid (Rdr.more (o := .cells #[.int .i64 0, .slice none 0 0] 24) HR3.out)
    have HO4 := Lib.hid (Only.more (o := .cells #[.int .i64 0, .slice none 0 0] 24) HO3.out)
    have hl3' := cell_lt HC3.out
    have HC4 := Lib.hid ((Below.heap_alloc w3 (.cells #[.int .i64 0, .slice none 0 0] 24) _ hl3').trans HC3.out)
    have HG4 := Lib.hid (HG3.out.kept (Below.heap_alloc w3 (.cells #[.int .i64 0, .slice none 0 0] 24) 0 (by omega)))
    have HT4 : Hid ((w3.alloc (.cells #[.int .i64 0, .slice none 0 0] 24)).heap[w2.heap.size]? = some (.cells #[.int .i64 0, .slice none 0 0] 24 (0, 0))) := by
      have := heap_alloc_new w3 (.cells #[.int .i64 0, .slice none 0 0] 24)
      rw [hw3s] at this
      exact this
    have hs4 : (w3.alloc (.cells #[.int .i64 0, .slice none 0 0] 24)).heap.size = w3.heap.size + 1 := by simp
    generalize w3.alloc (.cells #[.int .i64 0, .slice none 0 0] 24) = w4 at *
    refine (Knd.parse_any u w4 huz HG4.out).mono ?_
    rw [HUB.out]
    have HF : Hid (typR Knd.parseT (bl s) m = (m + k, (Knd.parseT (((bl s).drop m).take k)).2)) := by show _ = _; unfold typR; rw [HP.out]
    cases hp2 : Knd.parseT (((bl s).drop m).take k) with
    | mk k2 o2 =>
    cases o2 with
    | none =>
      have HF2 : Hid (typR Knd.parseT (bl s) m = (m + k, none)) := by show _ = _; rw [HF.out, hp2]
      clear hp2
      rintro e w5 ⟨he, hb5⟩
      obtain rfl : e = .returned (.tuple #[.agg #[.int .i64 0, .slice none 0 0], .int .i64 (k2 : Int), .int .i64 40]) := he
      have HR5 := Lib.hid (HR4.out.below hb5)
      have HO5 : Hid (Only R w w5) := HO4.out.trans (Only.of_below hb5)
      have HC5 := Lib.hid ((hb5.block w.heap.size (by omega)).trans HC4.out)
      have y0 := cell2_0 HC5.out
      have y1 := cell2_1 HC5.out
      have yf0 := cell3_f HC5.out 0
      have yf1 := cell3_f HC5.out 1
      have hl5 := cell_lt HC5.out
      have HT5 := Lib.hid ((hb5.block w2.heap.size (by omega)).trans HT4.out)
      have t0 := cell2_0 HT5.out
      have t1 := cell2_1 HT5.out
      have tf0 := cell3_f HT5.out 0
      have tf1 := cell3_f HT5.out 1
      have tl5 := cell_lt HT5.out
      clear hb5
      go_wp2_with (fail)
      refine bodyPost_ret (v := .tuple #[.agg #[.int .i64 0, .slice none 0 0], .bool false]) (by simp [results, Tryz.results182, go_sem, y0, y1]) rfl ?_
      rw [HF2.out]
      have hoo := HO5.out
      have hrr := HR5.out
      refine ⟨0, none, 0, 0, false, rfl, ?_, ?_, rfl, fun t' ht => by cases ht⟩
      · (repeat' (first | with_reducible assumption | with_reducible refine Only.far ?_ ?_ | with_reducible refine Only.more ?_ | (dsimp only; omega)))
      · (repeat' (first | with_reducible assumption | with_reducible refine Rdr.far ?_ ?_ | with_reducible refine Rdr.more ?_ | (dsimp only; omega)))
    | some t =>
      have HF2 : Hid (typR Knd.parseT (bl s) m = (m + k, some t)) := by show _ = _; rw [HF.out, hp2]
      clear hp2
      rintro e w5 ⟨⟨v, rfl, hT⟩, hb5⟩
      obtain ⟨A, c, rfl⟩ := hT.form
      have HT := Lib.hid hT
      have HR5 := Lib.hid (HR4.out.below hb5)
      have HO5 : Hid (Only R w w5) := HO4.out.trans (Only.of_below hb5)
      have HC5 := Lib.hid ((hb5.block w.heap.size (by omega)).trans HC4.out)
      have y0 := cell2_0 HC5.out
      have y1 := cell2_1 HC5.out
      have yf0 := cell3_f HC5.out 0
      have yf1 := cell3_f HC5.out 1
      have hl5 := cell_lt HC5.out
      have HT5 := Lib.hid ((hb5.block w2.heap.size (by omega)).trans HT4.out)
      have t0 := cell2_0 HT5.out
      have t1 := cell2_1 HT5.out
      have tf0 := cell3_f HT5.out 0
      have tf1 := cell3_f HT5.out 1
      have tl5 := cell_lt HT5.out
      clear hb5 hT
      go_wp2_with (fail)
      refine bodyPost_ret (v := .tuple #[.agg #[.int .i64 t.kind, .slice A t.args.length c], .bool true]) (by simp [results, Tryz.results182, go_sem, y0, y1]) rfl ?_
      rw [HF2.out]
      have hoo := HO5.out
      have hrr := HR5.out
      refine ⟨t.kind, A, t.args.length, c, true, rfl, ?_, ?_, rfl, fun t' ht => ?_⟩
      · (repeat' (first | with_reducible assumption | with_reducible refine Only.far ?_ ?_ | with_reducible refine Only.more ?_ | (dsimp only; omega)))
      · (repeat' (first | with_reducible assumption | with_reducible refine Rdr.far ?_ ?_ | with_reducible refine Rdr.more ?_ | (dsimp only; omega)))
      · cases ht
        refine ⟨rfl, rfl, 6, TyAt.move (fun b hb hl => ⟨by omega, fun o => World.cell?_of_block ?_⟩) _ _ _ HT.out⟩
        rw [Below.heap_setCell _ _ _ _ (by show b ≠ w.heap.size; omega), Below.heap_setCell _ _ _ _ (by show b ≠ w.heap.size; omega), Below.heap_setCell _ _ _ _ (by show b ≠ w2.heap.size; omega), Below.heap_setCell _ _ _ _ (by show b ≠ w2.heap.size; omega)]
end Go.Proofs.YtadbnlnifacblaaGreatDoor
namespace Go.Proofs.YtadbnlnifacblaaGreatDoor.Knd
open Go.RowKit
theorem words_one' : ∀ x ∈ words, ∀ y ∈ words, x.name.data.toList = y.name.data.toList → x.kind = y.kind ∧ x.args = y.args ∧ x.name = y.name := by decide
theorem words_one (x : Wd) (hx : x ∈ words) (y : Wd) (hy : y ∈ words) (h : x.name.data.toList = y.name.data.toList) : x = y := by
  obtain ⟨h1, h2, h3⟩ := words_one' x hx y hy h
  cases x; cases y
  simp only at h1 h2 h3
  rw [h1, h2, h3]
theorem wordK_self : ∀ x ∈ words, (wordK x.kind).map (fun y => (y.kind, y.args, y.name)) = some (x.kind, x.args, x.name) := by decide
theorem readW_word : ∀ (m : Nat) (lw : List Wd) (n : Nat) (x : Wd) (l : List UInt8), St lw n → x ∈ lw → x.name.size = n + 1 + m → l.take (m + 1) = x.name.data.toList.drop n → readW lw n l = (m + 1, some x)
  | m, lw, n, x, l, hst, hx, hm, hl => by
    have hlen : x.name.data.toList.length = x.name.size := by simp
    have hd : x.name.data.toList.drop n = x.name.data.toList[n]'(by omega) :: x.name.data.toList.drop (n + 1) := List.drop_eq_getElem_cons (by omega)
    cases l with
    | nil => rw [hd] at hl; simp at hl
    | cons b rest =>
      rw [hd, List.take_succ_cons, List.cons.injEq] at hl
      obtain ⟨hb, hr⟩ := hl
      have hxo : x ∈ onW lw n b := by
        refine List.mem_filter.2 ⟨hx, ?_⟩
        rw [List.getElem?_eq_getElem (by omega)]
        simp [hb]
      have hsame : ∀ y ∈ onW lw n b, y.name.data.toList.take (n + 1) = x.name.data.toList.take (n + 1) := fun y hy => by
        obtain ⟨h1, h2⟩ := List.mem_filter.1 hy
        obtain ⟨_, h3⟩ := List.mem_filter.1 hxo
        have e2 : y.name.data.toList[n]? = some b := by simpa using h2
        have e3 : x.name.data.toList[n]? = some b := by simpa using h3
        rw [List.take_add_one, List.take_add_one, e2, e3, hst.2 y h1 x hx]
      cases ho : onW lw n b with
      | nil => rw [ho] at hxo; simp at hxo
      | cons y l2 =>
        have hy : y ∈ onW lw n b := by rw [ho]; exact List.mem_cons_self ..
        have hy1 := hst.1 y (List.mem_filter.1 hy).1
        have hx1 := hst.1 x hx
        have hyl : y.name.data.toList.length = y.name.size := by simp
        unfold readW
        simp only [ho]
        cases m with
        | zero =>
          have e : x.name.data.toList = y.name.data.toList.take x.name.size := by
            rw [show x.name.size = n + 1 by omega, hsame y hy, List.take_of_length_le (by omega)]
          have hsz := words_apart x hx1.1 y hy1.1 e
          have hxy : y = x := words_one y hy1.1 x hx1.1 (by
            rw [e, hsz, List.take_of_length_le (by omega)])
          rw [if_neg (by omega), hxy]
        | succ m =>
          have hlt : n + 1 < y.name.size := by
            rcases Nat.lt_or_ge (n + 1) y.name.size with h | h
            · exact h
            · have e : y.name.data.toList = x.name.data.toList.take y.name.size := by
                rw [show y.name.size = n + 1 by omega, ← hsame y hy, List.take_of_length_le (by omega)]
              have := words_apart y hy1.1 x hx1.1 e
              omega
          have hst2 := hst.step ho hlt
          have := readW_word m (y :: l2) (n + 1) x rest hst2 (by rw [← ho]; exact hxo) (by omega) hr
          rw [if_pos hlt, this]
theorem wordK_of {x : Wd} (hx : x ∈ words) : wordK x.kind = some x := by
  have h := wordK_self x hx
  obtain ⟨y, hy, he⟩ := Option.map_eq_some_iff.1 h
  rw [hy]
  cases x; cases y
  simp only [Prod.mk.injEq] at he
  obtain ⟨h1, h2, h3⟩ := he
  rw [h1, h2, h3]
theorem readW_ends : ∀ (l : List UInt8) (lw : List Wd) (n k : Nat) (x : Wd), readW lw n l = (k, some x) → St lw n → l.take k = x.name.data.toList.drop n
  | [], lw, n, k, x, h, hst => by simp [readW] at h
  | b :: rest, lw, n, k, x, h, hst => by
    unfold readW at h
    cases ho : onW lw n b with
    | nil => simp [ho] at h
    | cons y l2 =>
      simp only [ho] at h
      have hm : ∀ z ∈ y :: l2, z ∈ lw ∧ z.name.data.toList[n]? = some b := fun z hz => by
        rw [← ho] at hz
        have := List.mem_filter.1 hz
        exact ⟨this.1, by simpa using this.2⟩
      split at h
      · rename_i hy
        rw [Prod.mk.injEq] at h
        obtain ⟨h1, h2⟩ := h
        subst h1
        have hx := readW_mem rest (y :: l2) (n + 1) x h2
        have ih := readW_ends rest (y :: l2) (n + 1) _ x (Prod.ext rfl h2) (hst.step ho hy)
        obtain ⟨hn, hb⟩ := List.getElem?_eq_some_iff.1 (hm x hx).2
        rw [List.take_succ_cons, ih, List.drop_eq_getElem_cons hn, hb]
      · rename_i hy
        rw [Prod.mk.injEq] at h
        obtain ⟨h1, h2⟩ := h
        injection h2 with h2
        subst h1; subst h2
        obtain ⟨hn, hb⟩ := List.getElem?_eq_some_iff.1 (hm y (List.mem_cons_self ..)).2
        have hyl : y.name.data.toList.length = y.name.size := by simp
        rw [List.take_succ_cons, List.take_zero, List.drop_eq_getElem_cons hn, hb, List.drop_of_length_le (by omega)]
theorem take_app {α : Type} (a b : List α) : (a ++ b).take a.length = a := by simp
theorem drop_app {α : Type} (a b : List α) (n : Nat) (h : n = a.length) : (a ++ b).drop n = b := by subst h; simp
theorem readArgs_text (r : Nat) (ih : ∀ (t : Ty) (q : Nat) (rest : List UInt8), measureT r t = some q → readT r (textT r t ++ rest) = ((textT r t).length, some t)) :
    ∀ (l : List Ty) (i : Nat) (pre rest : List UInt8) (acc : List Ty), (∀ a ∈ l, ∃ q, measureT r a = some q) → i + l.length ≤ 2 →
    readArgs (readT r) (pre ++ (textL (textT r) l i ++ rest)) l.length i pre.length acc = (pre.length + (textL (textT r) l i).length, some (acc ++ l))
  | [], i, pre, rest, acc, _, _ => by simp [readArgs, textL]
  | a :: l, i, pre, rest, acc, hall, hi => by
    obtain ⟨q, hq⟩ := hall a (List.mem_cons_self ..)
    have e1 : (pre ++ (textL (textT r) (a :: l) i ++ rest)).drop pre.length = aheadB i :: (textT r a ++ (textL (textT r) l (i + 1) ++ rest)) := by
      rw [drop_app _ _ _ rfl]; simp [textL]
    have e2 : (pre ++ (textL (textT r) (a :: l) i ++ rest)).drop (pre.length + 1) = textT r a ++ (textL (textT r) l (i + 1) ++ rest) := by
      rw [← List.drop_drop, e1]; rfl
    simp only [List.length_cons, readArgs]
    rw [e1, if_pos (by rfl), e2, ih a q _ hq]
    simp only
    have e3 : pre ++ (textL (textT r) (a :: l) i ++ rest) = (pre ++ aheadB i :: textT r a) ++ (textL (textT r) l (i + 1) ++ rest) := by simp [textL]
    have e4 : pre.length + 1 + (textT r a).length = (pre ++ aheadB i :: textT r a).length := by simp; omega
    rw [e3, e4, readArgs_text r ih l (i + 1) (pre ++ aheadB i :: textT r a) rest (acc ++ [a]) (fun b hb => hall b (List.mem_cons_of_mem _ hb)) (by simp only [List.length_cons] at hi; omega)]
    simp only [textL, List.length_append, List.length_cons, List.append_assoc, List.singleton_append, Prod.mk.injEq, and_true]
    omega
theorem measure_leaf {t : Ty} {q : Nat} (h : measureT 1 t = some q) : t.args = [] := by
  obtain ⟨x, _, _, _, hall⟩ := measure_right h
  cases ht : t.args with
  | nil => rfl
  | cons a l =>
    obtain ⟨q', hq⟩ := hall a (by rw [ht]; exact List.mem_cons_self ..)
    simp [measureT] at hq
theorem read_text : ∀ (r : Nat) (t : Ty) (q : Nat) (rest : List UInt8), measureT r t = some q → readT r (textT r t ++ rest) = ((textT r t).length, some t)
  | 0, t, q, rest, h => by simp [measureT] at h
  | r + 1, t, q, rest, h => by
    obtain ⟨x, hx, hxa, hxw, hall⟩ := measure_right h
    have hkd := (wordK_mem hx).2
    have ha := words_args x hxw
    have h6 := words_small x hxw
    have hnl : x.name.data.toList.length = x.name.size := by simp
    have hfit : x ∈ fitW ((r + 1 : Nat) : Int) words := by
      refine List.mem_filter.2 ⟨hxw, ?_⟩
      cases r with
      | zero =>
        have := measure_leaf h
        rw [this] at hxa
        simp at hxa
        simp [← hxa]
      | succ r => simp; omega
    have ht : textT (r + 1) t = x.name.data.toList ++ textL (textT r) t.args 0 ++ (if 0 < t.args.length then [41] else []) := by simp only [textT, hx, Option.getD_some]
    obtain ⟨m, hm⟩ : ∃ m, x.name.size = m + 1 := ⟨x.name.size - 1, by omega⟩
    have hw : readW (fitW ((r + 1 : Nat) : Int) words) 0 (textT (r + 1) t ++ rest) = (m + 1, some x) := by
      refine readW_word m _ 0 x _ (St.start _) hfit (by omega) ?_
      rw [ht, List.append_assoc, List.append_assoc, List.drop_zero, ← hm, ← hnl, take_app]
    unfold readT
    rw [hw]
    simp only
    have hargs := readArgs_text r (fun t q rest h => read_text r t q rest h) t.args 0 x.name.data.toList ((if 0 < t.args.length then [41] else []) ++ rest) [] hall (by omega)
    rw [hnl, hm] at hargs
    have e5 : textT (r + 1) t ++ rest = x.name.data.toList ++ (textL (textT r) t.args 0 ++ ((if 0 < t.args.length then [41] else []) ++ rest)) := by rw [ht]; simp
    have e6 : x.args.toNat = t.args.length := by omega
    rw [e5, e6, hargs]
    have hty : Ty.mk x.kind t.args = t := by rw [hkd]; cases t; rfl
    have hd : (x.name.data.toList ++ (textL (textT r) t.args 0 ++ ((if 0 < t.args.length then [41] else []) ++ rest))).drop (m + 1 + (textL (textT r) t.args 0).length) = (if 0 < t.args.length then [41] else []) ++ rest := by
      rw [← List.append_assoc]
      exact drop_app _ _ _ (by simp; omega)
    simp only [readEnd, List.nil_append]
    have htl : (textT (r + 1) t).length = m + 1 + (textL (textT r) t.args 0).length + (if 0 < t.args.length then [(41 : UInt8)] else []).length := by
      rw [ht]; simp only [List.length_append]; omega
    by_cases hp : 0 < t.args.length
    · rw [if_pos (by omega : 0 < x.args), hd, if_pos hp, htl, if_pos hp]
      simp [hty]
    · rw [if_neg (by omega : ¬ 0 < x.args), htl, if_neg hp]
      simp [hty]
theorem readArgs_back (r : Nat) (ih : ∀ (l : List UInt8) (k : Nat) (t : Ty), readT r l = (k, some t) → textT r t = l.take k ∧ ∃ q, measureT r t = some q) (l : List UInt8) :
    ∀ (left i k m : Nat) (acc res : List Ty), readArgs (readT r) l left i k acc = (m, some res) → i + left ≤ 2 →
    ∃ new, res = acc ++ new ∧ new.length = left ∧ l.take m = l.take k ++ textL (textT r) new i ∧ ∀ a ∈ new, ∃ q, measureT r a = some q
  | 0, i, k, m, acc, res, h, _ => by
    simp only [readArgs, Prod.mk.injEq, Option.some.injEq] at h
    obtain ⟨rfl, rfl⟩ := h
    exact ⟨[], by simp, rfl, by simp [textL], fun a ha => by simp at ha⟩
  | left + 1, i, k, m, acc, res, h, hi => by
    unfold readArgs at h
    split at h
    · rename_i hh
      cases hr : readT r (l.drop (k + 1)) with
      | mk j o =>
        rw [hr] at h
        cases o with
        | none => simp at h
        | some a =>
          simp only at h
          obtain ⟨new, h1, h2, h3, h4⟩ := readArgs_back r ih l left (i + 1) (k + 1 + j) m (acc ++ [a]) res h (by omega)
          obtain ⟨h5, h6⟩ := ih _ _ _ hr
          refine ⟨a :: new, by rw [h1]; simp, by simp [h2], ?_, fun b hb => ?_⟩
          · rw [h3]
            have hk := head_lt hh
            have hb : l[k]? = some (aheadB i) := by rw [← List.head?_drop]; exact hh
            have e : l.take (k + 1 + j) = l.take k ++ (aheadB i :: textT r a) := by
              rw [h5, List.take_add, List.take_add_one, hb]
              simp
            rw [e]
            simp [textL]
          · rcases List.mem_cons.1 hb with rfl | hb
            · exact h6
            · exact h4 b hb
    · simp at h
theorem measureL_some (f : Ty → Option Nat) : ∀ (l : List Ty) (m : Nat), (∀ a ∈ l, ∃ q, f a = some q) → ∃ q, measureL f l m = some q
  | [], m, _ => ⟨m, rfl⟩
  | a :: l, m, h => by
    obtain ⟨q, hq⟩ := h a (List.mem_cons_self ..)
    simp only [measureL, hq]
    exact measureL_some f l _ (fun b hb => h b (List.mem_cons_of_mem _ hb))
theorem read_back : ∀ (r : Nat) (l : List UInt8) (k : Nat) (t : Ty), readT r l = (k, some t) → textT r t = l.take k ∧ ∃ q, measureT r t = some q
  | 0, l, k, t, h => by simp [readT] at h
  | r + 1, l, k, t, h => by
    unfold readT at h
    cases hw : readW (fitW (r + 1 : Nat) words) 0 l with
    | mk k0 o =>
      rw [hw] at h
      cases o with
      | none => simp at h
      | some x =>
        simp only at h
        have hxw := (List.mem_filter.1 (readW_mem l (fitW (r + 1 : Nat) words) 0 x (by rw [hw]))).1
        have hxa := words_args x hxw
        have hen := readW_ends l _ 0 k0 x hw (St.start _)
        rw [List.drop_zero] at hen
        cases hp : readArgs (readT r) l x.args.toNat 0 k0 [] with
        | mk m o =>
          rw [hp] at h
          cases o with
          | none => simp [readEnd] at h
          | some res =>
            obtain ⟨new, h1, h2, h3, h4⟩ := readArgs_back r (read_back r) l _ 0 k0 m [] res hp (by omega)
            simp only [List.nil_append] at h1
            subst h1
            have hK := wordK_of hxw
            obtain ⟨q, hq⟩ := measureL_some (measureT r) res 0 h4
            have hme : measureT (r + 1) (.mk x.kind res) = some (q + 1) := by
              have hk1 : (Ty.mk x.kind res).kind = x.kind := rfl
              have hk2 : (Ty.mk x.kind res).args = res := rfl
              unfold measureT
              rw [hk1, hk2, hK]
              simp only
              rw [if_pos (by omega), hq]
              rfl
            have htx : textT (r + 1) (.mk x.kind res) = l.take m ++ (if 0 < res.length then [41] else []) := by
              have hk1 : (Ty.mk x.kind res).kind = x.kind := rfl
              have hk2 : (Ty.mk x.kind res).args = res := rfl
              unfold textT
              rw [hk1, hk2, hK, h3, hen]
              rfl
            simp only [readEnd] at h
            split at h
            · rename_i hpos
              split at h
              · rename_i hh
                simp only [Prod.mk.injEq, Option.some.injEq] at h
                obtain ⟨rfl, rfl⟩ := h
                refine ⟨?_, _, hme⟩
                have hb : l[m]? = some 41 := by rw [← List.head?_drop]; exact hh
                rw [htx, if_pos (by omega), List.take_add_one, hb]
                rfl
              · simp at h
            · rename_i hpos
              simp only [Prod.mk.injEq, Option.some.injEq] at h
              obtain ⟨rfl, rfl⟩ := h
              refine ⟨?_, _, hme⟩
              rw [htx, if_neg (by omega), List.append_nil]
theorem parse_text {t : Ty} {q : Nat} (h : measureT 6 t = some q) : parseT (textT 6 t) = (0, some t) := by
  have := read_text 6 t q [] h
  rw [List.append_nil] at this
  unfold parseT
  rw [this]
  simp
theorem parse_back {l : List UInt8} {k : Nat} {t : Ty} (h : parseT l = (k, some t)) : textT 6 t = l ∧ ∃ q, measureT 6 t = some q := by
  unfold parseT at h
  cases hr : readT 6 l with
  | mk j o =>
    rw [hr] at h
    cases o with
    | none => simp at h
    | some t' =>
      simp only at h
      split at h
      · simp at h
      · simp only [Prod.mk.injEq, Option.some.injEq] at h
        obtain ⟨_, rfl⟩ := h
        obtain ⟨h1, h2⟩ := read_back 6 l j t' hr
        refine ⟨by rw [h1, List.take_of_length_le (by omega)], h2⟩
end Go.Proofs.YtadbnlnifacblaaGreatDoor.Knd
namespace Go.Proofs.YtadbnlnifacblaaGreatDoor
open Go.RowKit
theorem info37 : (Tryz.prog.info? 34).map (fun i => (i.zero, i.size, i.bytes)) = some (some (.agg #[.int .i64 0, .slice none 0 0]), 2, 32) := by kernel_rfl
theorem ty_made_e {r i base : Nat} {lo : Nat} {kd : Int} {acc : List Ty} {vs : Value} {cs : List Value} {S : Nat → Prop} {wr wF : World} {te : TypeId} (hcs : wr.ownsRow base te 2 vs i cs) (hlen : acc.length = i)
    (hargs : ∀ (j : Nat) (a : Ty), acc[j]? = some a → ∃ u0 u1, cs[j * 2]? = some u0 ∧ cs[j * 2 + 1]? = some u1 ∧ TyAt wr S r (.agg #[u0, u1]) a) (hS : ∀ b, S b → base ≤ b)
    (hlo : lo ≤ base) (hk : ∀ b, base ≤ b → b < wr.heap.size → wF.heap[b]? = wr.heap[b]?) : TyAt wF (fun b => lo ≤ b) (r + 1) (.agg #[.int .i64 kd, vs]) (.mk kd acc) := by
  have hkc : ∀ b, base ≤ b → b < wr.heap.size → ∀ o, wF.cell? ⟨b, o, none⟩ = wr.cell? ⟨b, o, none⟩ := fun b hb hl o => World.cell?_of_block (hk b hb hl)
  rcases hcs.2 with ⟨rfl, h0⟩ | ⟨g, cap, cur, rfl, hbg, hg, hnc, _⟩
  · have ha : acc.length = 0 := by omega
    refine ⟨none, 0, ?_, by show acc.length ≤ 0; omega, fun hl => ?_⟩
    · show _ = Value.agg #[.int .i64 kd, .slice none acc.length 0]
      rw [ha]
    · have hl' : 0 < acc.length := hl
      omega
  · have hgl := cell_lt hg
    refine ⟨some ⟨g, 0, none⟩, cap, ?_, by show acc.length ≤ cap; omega, fun hl => ⟨g, 0, rfl, by omega, fun j a ha => ?_⟩⟩
    · show _ = Value.agg #[.int .i64 kd, .slice (some ⟨g, 0, none⟩) acc.length cap]
      rw [hlen]
    · have ha' : acc[j]? = some a := ha
      obtain ⟨u0, u1, h0, h1, h2⟩ := hargs j a ha'
      have hjl := (List.getElem?_eq_some_iff.1 ha').1
      refine ⟨u0, u1, ?_, ?_, TyAt.move (fun b hSb hbl => ⟨by have := hS b hSb; omega, hkc b (hS b hSb) hbl⟩) _ _ _ h2⟩
      · rw [Nat.zero_add, hkc g hbg hgl, hcs.cellAt _ (by omega)]; exact h0
      · rw [Nat.zero_add, hkc g hbg hgl, hcs.cellAt _ (by omega)]; exact h1
structure OfInv (w : World) (v0 : Value) (t : Ty) (kd : Int) (d j : Nat) (vs : Value) (cs : List Value) (wr : World) : Prop where
  below : Below w.heap.size w wr
  size : w.heap.size + 2 ≤ wr.heap.size
  box : wr.heap[w.heap.size]? = some (.cells #[.int .i64 kd, v0] 24 (0, 0))
  res : wr.heap[w.heap.size + 1]? = some (.cells #[.int .i64 0, .slice none 0 0] 34 (0, 0))
  own : wr.ownsRow (w.heap.size + 2) 34 2 vs j cs
  args : ∀ (i : Nat) (a : Ty), i < j → t.args[i]? = some a → ∃ u0 u1, cs[i * 2]? = some u0 ∧ cs[i * 2 + 1]? = some u1 ∧ TyAt wr (fun b => w.heap.size + 2 ≤ b ∧ some b ≠ vs.ownBlock) d (.agg #[u0, u1]) a
theorem OfInv.next {w wr w3 w7 : World} {v0 vs v' u0 u1 : Value} {t a : Ty} {kd : Int} {d j : Nat} {cs : List Value} {o1 o2 : Obj} (h : OfInv w v0 t kd d j vs cs wr) (hb : Below (wr.alloc o1).heap.size (wr.alloc o1) w3) (hT : TyAt w3 (fun b => (wr.alloc o1).heap.size ≤ b) d (.agg #[u0, u1]) a) (ha : t.args[j]? = some a)
    (hg : (w3.alloc o2).grownBy w7 vs.ownBlock) (hown7 : w7.ownsRow (w.heap.size + 2) 34 2 v' (j + 1) (cs ++ [u0, u1])) (hat : v'.ownBlock = vs.ownBlock ∨ v'.ownBlock = some (w3.alloc o2).heap.size) :
    OfInv w v0 t kd d (j + 1) v' (cs ++ [u0, u1]) w7 := by
  have hs := h.size
  have hs3 := hb.size
  have e1 : (wr.alloc o1).heap.size = wr.heap.size + 1 := by simp
  have e3 : (w3.alloc o2).heap.size = w3.heap.size + 1 := by simp
  have hs7 := hg.size
  have hvs : ∀ b, vs.ownBlock = some b → w.heap.size + 2 ≤ b ∧ b < wr.heap.size := h.own.lt
  have step3 : ∀ b, b < w3.heap.size → some b ≠ vs.ownBlock → w7.heap[b]? = w3.heap[b]? := fun b hl hne => by
    rw [hg.block b (by omega) hne, Below.heap_alloc _ _ _ hl]
  have stepr : ∀ b, b < wr.heap.size → some b ≠ vs.ownBlock → w7.heap[b]? = wr.heap[b]? := fun b hl hne => by
    rw [step3 b (by omega) hne, hb.block b (by omega), Below.heap_alloc _ _ _ hl]
  have ne1 : ∀ b, b < w.heap.size + 2 → some b ≠ vs.ownBlock := fun b hl e => by have := (hvs b e.symm).1; omega
  have hbw : Below w.heap.size w w7 := ((h.below.alloc (by omega) o1).trans (hb.mono (by omega))).alloc (by omega) o2 |>.grown hg (by omega) (fun k hk => by have := (hvs k hk).1; omega)
  refine ⟨hbw, by omega, ?_, ?_, hown7, fun i b hi hib => ?_⟩
  · rw [stepr _ (by omega) (ne1 _ (by omega))]; exact h.box
  · rw [stepr _ (by omega) (ne1 _ (by omega))]; exact h.res
  · have hcl : cs.length = j * 2 := h.own.1
    rcases Nat.lt_or_ge i j with hlt | hge
    · obtain ⟨x0, x1, h0, h1, h2⟩ := h.args i b hlt hib
      refine ⟨x0, x1, by rw [List.getElem?_append_left (by omega)]; exact h0, by rw [List.getElem?_append_left (by omega)]; exact h1, h2.move fun k hk hl => ⟨⟨hk.1, fun e => ?_⟩, fun _ => World.cell?_of_block (stepr k hl hk.2)⟩⟩
      rcases hat with hh | hh
      · exact hk.2 (e.trans hh)
      · rw [hh, e3] at e; injection e; omega
    · obtain rfl : i = j := by omega
      rw [ha] at hib
      injection hib with hib
      subst hib
      have nev : ∀ k, wr.heap.size + 1 ≤ k → some k ≠ vs.ownBlock := fun k hk e => by have := (hvs k e.symm).2; omega
      refine ⟨u0, u1, by rw [List.getElem?_append_right (by omega)]; simp [show i * 2 - cs.length = 0 by omega], by rw [List.getElem?_append_right (by omega)]; simp [show i * 2 + 1 - cs.length = 1 by omega], hT.move fun k hk hl => ⟨⟨by omega, fun e => ?_⟩, fun _ => World.cell?_of_block (step3 k hl (nev k (by omega)))⟩⟩
      rcases hat with hh | hh
      · rw [hh] at e; exact nev k (by omega) e
      · rw [hh, e3] at e; injection e; omega
set_option maxRecDepth 100000 in
set_option maxHeartbeats 1000000 in
theorem typ_any : ∀ (d n : Nat) (S : Nat → Prop) (v : Value) (t : Ty) (w : World), Nar n t → TyAt w S d v t →
    Calls Tryz.prog 47 #[v] w fun e w' => (∃ v', e = .returned v' ∧ TyAt w' (fun b => w.heap.size ≤ b) d v' t) ∧ Below w.heap.size w w'
  | 0, n, S, v, t, w, _, hT => hT.elim
  | d + 1, 0, S, v, t, w, hN, _ => hN.elim
  | d + 1, n + 1, S, v, t, w, hN, hT => by
    obtain ⟨i0, hi, hq0, hq1, hq2⟩ := info_parts info37
    obtain ⟨hlen, hall⟩ := hN
    have IH := typ_any d n
    have HIH := Lib.hid IH
    have HALL := Lib.hid hall
    have HT := Lib.hid hT
    obtain ⟨A, c, rfl, hlc, hA⟩ := hT
    have HA := Lib.hid hA
    clear hA IH hall
    go_enter Tryz.func47, Tryz.ntmps47
    go_wp2_with (fail)
    go_loopw [3, 9] (fun vs i wr => ∃ (j : Nat) (cs : List Value), i = .int .i64 j ∧ j ≤ t.args.length ∧ OfInv w (.slice A t.args.length c) t t.kind d j vs cs wr) (fun _ i _ => 6000 - (intOf i).toNat)
    case atStart =>
      refine ⟨0, [], rfl, by omega, ((Below.refl _ _).alloc (Nat.le_refl _) _).alloc (by simp) _, by simp, ?_, ?_, World.ownsRow_nil _ _ _ _, fun i a hi => by omega⟩
      · rw [Below.heap_alloc _ _ _ (by simp)]; exact heap_alloc_new w _
      · exact (by simpa using heap_alloc_new (w.alloc _) _)
    case round =>
      obtain ⟨j, cs, rfl, hj, hI⟩ := hrel
      obtain ⟨vs, rfl⟩ : ∃ vs : Value, vs = u3 := ⟨_, rfl⟩
      have HI := Lib.hid hI
      have b0 := cell2_0 hI.box
      have b1 := cell2_1 hI.box
      have r0 := cell2_0 hI.res
      have r1 := cell2_1 hI.res
      have f0 := cell3_f hI.res 0
      have f1 := cell3_f hI.res 1
      have hbr := hI.below
      have hsz := hI.size
      clear hI
      by_cases hlt : j < t.args.length
      · obtain ⟨b, o, rfl, hSb, hcells⟩ := HA.out (by omega)
        obtain ⟨B1, k1, h0, h1, h2, hbl⟩ := arg_cells hcells hlt
        have g0 := (hbr.cell (p := ⟨b, o + j * 2, none⟩) hbl).trans h0
        have g1 := (hbr.cell (p := ⟨b, o + j * 2 + 1, none⟩) hbl).trans h1
        have hna := HALL.out _ (List.getElem_mem hlt)
        have hat : t.args[j]? = some t.args[j] := List.getElem?_eq_getElem hlt
        generalize t.args[j] = a at *
        have HAT := Lib.hid hat
        have H2 := Lib.hid ((h2.below hbr).below ((Below.refl wr.heap.size wr).alloc (Nat.le_refl _) (.cells #[.int .i64 a.kind, .slice B1 a.args.length k1] 24)))
        have HNA := Lib.hid hna
        clear h0 h1 h2 hat hna hcells
        go_wp2_with (fail)
        refine (HIH.out S _ a _ HNA.out H2.out).mono ?_
        rintro e w3 ⟨⟨v3, rfl, hT3⟩, hb3⟩
        obtain ⟨A3, c3, rfl⟩ := hT3.form
        have HT3 := Lib.hid hT3
        have hs3 := hb3.size
        have hown3 := HI.out.own.kept (row := none) ⟨hb3.os, hb3.tape, hb3.output, by have := hb3.size; simp at this; omega, fun k hk _ => (hb3.block k (by simp; omega)).trans (Below.heap_alloc wr _ k hk)⟩ (by cases hv : vs.ownBlock <;> simp)
        clear hT3
        simp only [World.size_alloc] at hs3
        go_wp2_with (at_builtin; refine wpList_append_own_at _ rfl _ _ 32 rfl (w.heap.size + 2) 34 i0 (.agg #[.int .i64 0, .slice none 0 0]) 2 32 Tryz.underlying32 hi hq0 hq1 hq2 rfl (by decide) vs j cs rfl (hown3.alloc _) ⟨w3.heap.size, 0, none⟩ 1 1 [.int .i64 a.kind, .slice A3 a.args.length c3] rfl rfl (cell_two_new _ _ _ _ _ rfl) (two_one _ _ _ _) (by unfold maxLen; omega) (by omega) (by simp; omega) ?_; intro v' w7 hown7 hgrow7 _ hat7)
        go_roundw
        case rel => exact ⟨j + 1, _, by go_num, by omega, OfInv.next HI.out hb3 HT3.out HAT.out hgrow7 hown7 hat7⟩
        case measure => simp [intOf]; omega
      · obtain rfl : j = t.args.length := by omega
        have hO := HI.out
        obtain ⟨A', c', rfl⟩ := own_slice hO.own
        go_wp2_with (fail)
        refine bodyPost_ret (v := .agg #[.int .i64 t.kind, .slice A' t.args.length c']) (by simp [results, Tryz.results47, go_sem, r0, r1]) rfl ?_
        refine ⟨⟨_, rfl, ?_⟩, (hbr.setCell (p := ⟨w.heap.size + 1, 0, none⟩) (by show _ ≤ w.heap.size + 1; omega) _).setCell (p := ⟨w.heap.size + 1, 1, none⟩) (by show _ ≤ w.heap.size + 1; omega) _⟩
        have := ty_made_e (wF := (wr.setCell ⟨w.heap.size + 1, 0, none⟩ (.int .i64 t.kind)).setCell ⟨w.heap.size + 1, 1, none⟩ (.slice A' t.args.length c')) (lo := w.heap.size) (kd := t.kind) (acc := t.args) hO.own rfl (fun i a ha => hO.args i a (List.getElem?_eq_some_iff.1 ha).1 ha) (fun b hb => hb.1) (by omega) (fun b hb hl => by
          rw [Below.heap_setCell _ _ _ _ (by show b ≠ w.heap.size + 1; omega), Below.heap_setCell _ _ _ _ (by show b ≠ w.heap.size + 1; omega)])
        exact (show Ty.mk t.kind t.args = t by cases t; rfl) ▸ this
theorem ty_ext {a b : Ty} (h : a.kind = b.kind) (g : a.args = b.args) : a = b := by
  cases a; cases b
  simp only [Ty.kind, Ty.args] at h g
  subst h; subst g; rfl
set_option maxRecDepth 100000 in
set_option maxHeartbeats 1000000 in
theorem tsame_any : ∀ (d d' n : Nat) (S S' : Nat → Prop) (v v' : Value) (a b : Ty) (w : World), Nar n a → TyAt w S d v a → TyAt w S' d' v' b →
    Calls Tryz.prog 34 #[v, v'] w fun e w' => (∃ q : Bool, e = .returned (.bool q) ∧ (q = true ↔ a = b)) ∧ Below w.heap.size w w'
  | 0, d', n, S, S', v, v', a, b, w, _, hT, _ => hT.elim
  | d + 1, 0, n, S, S', v, v', a, b, w, _, _, hT' => hT'.elim
  | d + 1, d' + 1, 0, S, S', v, v', a, b, w, hN, _, _ => hN.elim
  | d + 1, d' + 1, n + 1, S, S', v, v', a, b, w, hN, hT, hT' => by
    obtain ⟨hlen, hall⟩ := hN
    have IH := tsame_any d d' n
    have HIH := Lib.hid IH
    have HALL := Lib.hid hall
    obtain ⟨A, c, rfl, hlc, hA⟩ := hT
    obtain ⟨A', c', rfl, hlc', hA'⟩ := hT'
    have HA := Lib.hid hA
    have HA' := Lib.hid hA'
    have hb2 := ((Below.refl w.heap.size w).alloc (Nat.le_refl _) (.cells #[.int .i64 a.kind, .slice A a.args.length c] 34)).alloc (by simp) (.cells #[.int .i64 b.kind, .slice A' b.args.length c'] 34)
    have hx0 := (Below.heap_alloc (w.alloc (.cells #[.int .i64 a.kind, .slice A a.args.length c] 34)) (.cells #[.int .i64 b.kind, .slice A' b.args.length c'] 34) w.heap.size (by simp)).trans (heap_alloc_new w _)
    have hx1 : ((w.alloc (.cells #[.int .i64 a.kind, .slice A a.args.length c] 34)).alloc (.cells #[.int .i64 b.kind, .slice A' b.args.length c'] 34)).heap[w.heap.size + 1]? = some (.cells #[.int .i64 b.kind, .slice A' b.args.length c'] 34 (0, 0)) := by simpa using heap_alloc_new (w.alloc (.cells #[.int .i64 a.kind, .slice A a.args.length c] 34)) (.cells #[.int .i64 b.kind, .slice A' b.args.length c'] 34)
    have hz2 : w.heap.size + 2 ≤ ((w.alloc (.cells #[.int .i64 a.kind, .slice A a.args.length c] 34)).alloc (.cells #[.int .i64 b.kind, .slice A' b.args.length c'] 34)).heap.size := by simp
    clear hA hA' IH hall
    by_cases hk : a.kind = b.kind
    · by_cases hl : a.args.length = b.args.length
      · have hkb : (a.kind != b.kind) = false := by simp [hk]
        have hlb : ((a.args.length : Int) != (b.args.length : Int)) = false := by simp [hl]
        have HF : Hid (a.args = b.args → a = b) := ty_ext hk
        have HL := Lib.hid hl
        clear hk hl
        go_enter Tryz.func34, Tryz.ntmps34
        go_wp2_with (fail)
        go_loopw [5] (fun i wr => ∃ j : Nat, i = .int .i64 j ∧ j ≤ a.args.length ∧ Hid (a.args.take j = b.args.take j) ∧ Below w.heap.size w wr ∧ w.heap.size + 2 ≤ wr.heap.size ∧ wr.heap[w.heap.size]? = some (.cells #[.int .i64 a.kind, .slice A a.args.length c] 34 (0, 0)) ∧ wr.heap[w.heap.size + 1]? = some (.cells #[.int .i64 b.kind, .slice A' b.args.length c'] 34 (0, 0))) (fun i _ => 6000 - (intOf i).toNat)
        case atStart => exact ⟨0, rfl, by omega, rfl, hb2, hz2, hx0, hx1⟩
        case round =>
          obtain ⟨j, rfl, hj, HE, hbr, hsz, hy0, hy1⟩ := hrel
          have c0 := cell2_0 hy0
          have c1 := cell2_1 hy0
          have d0 := cell2_0 hy1
          have d1 := cell2_1 hy1
          by_cases hlt : j < a.args.length
          · have hltm : j < b.args.length := by have := HL.out; omega
            obtain ⟨b1, o, rfl, hSb, hcells⟩ := HA.out (by omega)
            obtain ⟨b2, o', rfl, hSb', hcells'⟩ := HA'.out (by omega)
            obtain ⟨B1, k1, h0, h1, h2, hbl⟩ := arg_cells hcells hlt
            obtain ⟨B2, k2, h0', h1', h2', hbl'⟩ := arg_cells hcells' hltm
            have g0 := (hbr.cell (p := ⟨b1, o + j * 2, none⟩) hbl).trans h0
            have g1 := (hbr.cell (p := ⟨b1, o + j * 2 + 1, none⟩) hbl).trans h1
            have g0' := (hbr.cell (p := ⟨b2, o' + j * 2, none⟩) hbl').trans h0'
            have g1' := (hbr.cell (p := ⟨b2, o' + j * 2 + 1, none⟩) hbl').trans h1'
            have hna := HALL.out _ (List.getElem_mem hlt)
            have hd : a.args[j]? = some a.args[j] := List.getElem?_eq_getElem hlt
            have hd' : b.args[j]? = some b.args[j] := List.getElem?_eq_getElem hltm
            generalize a.args[j] = x at *
            generalize b.args[j] = y at *
            have HD := Lib.hid hd
            have HD' := Lib.hid hd'
            have H2 := Lib.hid (h2.below hbr)
            have H2' := Lib.hid (h2'.below hbr)
            have HNA := Lib.hid hna
            clear h0 h1 h2 h0' h1' h2' hd hd' hna hcells hcells'
            go_wp2_with (fail)
            refine wp_region_still_tail 10 (by kernel_rfl) (by kernel_rfl) ?_
            simp only [List.take_succ_cons, List.take_zero, List.drop_succ_cons, List.drop_zero]
            change wpStill _ _ (World.drew _) _ _ _
            repeat still_step
            refine wpStill_nil ?_
            change wpList _ _ _ _ _ (World.drew _)
            go_wp2_with (fail)
            refine (HIH.out S S' _ _ x y (wr.drew) HNA.out (H2.out.below (Below.refl wr.heap.size wr).drew) (H2'.out.below (Below.refl wr.heap.size wr).drew)).mono ?_
            rintro e w3 ⟨⟨q, rfl, hq⟩, hb3⟩
            have HQ := Lib.hid hq
            clear hq
            have hb3' : Below wr.heap.size wr w3 := (Below.refl wr.heap.size wr).drew.trans hb3
            have hb4 := hbr.trans (hb3'.mono hbr.size)
            have hs3 := hb3'.size
            have hy0' := (hb3'.block w.heap.size (by omega)).trans hy0
            have hy1' := (hb3'.block (w.heap.size + 1) (by omega)).trans hy1
            cases q with
            | false =>
              go_wp2
              go_ret
              exact ⟨⟨false, rfl, by simp; exact fun e => absurd (HQ.out.2 (by have h := HD.out; rw [e, HD'.out] at h; injection h with h; exact h.symm)) (by simp)⟩, hb4⟩
            | true =>
              have HF2 : Hid (a.args.take (j + 1) = b.args.take (j + 1)) := by show _ = _; rw [List.take_add_one, List.take_add_one, HE.out, HD.out, HD'.out, HQ.out.1 rfl]
              go_wp2
              go_roundw
              case rel => exact ⟨j + 1, by go_num, by omega, HF2, hb4, by omega, hy0', hy1'⟩
              case measure => simp [intOf]; omega
          · have HF2 : Hid (a.args = b.args) := by
              have h := HE.out
              rwa [List.take_of_length_le (by omega), List.take_of_length_le (by have := HL.out; omega)] at h
            go_wp2
            go_ret
            exact ⟨⟨true, rfl, fun _ => HF.out HF2.out, fun _ => rfl⟩, hbr⟩
      · have hkb : (a.kind != b.kind) = false := by simp [hk]
        have hlb : ((a.args.length : Int) != (b.args.length : Int)) = true := by simp; omega
        have HF : Hid (a ≠ b) := fun e => hl (by rw [e])
        clear hk hl
        go_enter Tryz.func34, Tryz.ntmps34
        go_wp2_with (fail)
        go_ret
        exact ⟨⟨false, rfl, by simp; exact HF.out⟩, hb2⟩
    · have hkb : (a.kind != b.kind) = true := by simp [hk]
      have HF : Hid (a ≠ b) := fun e => hk (by rw [e])
      clear hk
      go_enter Tryz.func34, Tryz.ntmps34
      go_wp2_with (fail)
      go_ret
      exact ⟨⟨false, rfl, by simp; exact HF.out⟩, hb2⟩
end Go.Proofs.YtadbnlnifacblaaGreatDoor
