import Derived.Test.YtaecndmncpfpfaaGreatDoorKb
import Derived.Test.YtaecndmncpfpfaaGreatDoorPe
namespace Go.Proofs.YtaecndmncpfpfaaGreatDoor.Knd
open Go.RowKit
def zK (l : List UInt8) : Nat × Option Ty :=
 match zZ 6 l with
 | (k, none) => (k, none)
 | (k, some t) => if k < l.length then (k, none) else (0, some t)
def PaOut (w w' : World) (e : Ending) : Nat × Option Ty → Prop
 | (k, none) => e = .returned (.tuple #[.agg #[.int .i64 0, .slice none 0 0], .int .i64 (k : Int), .int .i64 40])
 | (_, some t) => ∃ v, e = .returned (.tuple #[v, .int .i64 0, .int .i64 0]) ∧ TyAt w' (fun b => w.heap.size ≤ b) 6 v t
theorem pa_cell {w w1 : World} {o : Obj} {cs : Array Value} {t : TypeId} (h : Only (w.heap.size + 1) ((w.alloc (.cells cs t)).alloc o) w1) : w1.heap[w.heap.size]? = some (.cells cs t (0, 0)) := by
 rw [h.block _ (by simp <;> omega) (by simp), Below.heap_alloc _ _ _ (by simp)]
 exact heap_alloc_new w _
theorem two_stored {w : World} {g : Nat} {a b : Value} {t : TypeId} (h : w.heap[g]? = some (.cells #[a, b] t (0, 0))) (c d : Value) : ((w.setCell ⟨g, 0, none⟩ c).setCell ⟨g, 1, none⟩ d).heap[g]? = some (.cells #[c, d] t (0, 0)) := by
 simp [World.setCell, Array.getElem?_modify, h]
theorem pa_below {w w1 : World} {o o' : Obj} (h : Only (w.heap.size + 1) ((w.alloc o).alloc o') w1) : Below w.heap.size w w1 :=
 (((Below.refl _ w).alloc (Nat.le_refl _) _).alloc (by simp) _).trans (h.below (by omega) (by simp <;> omega))
set_option maxRecDepth 100000 in
set_option maxHeartbeats 1000000 in
theorem parse_any (s : ByteArray) (w : World) (hs : s.size ≤ 1000000) (hG : Glob w) :
    Calls Tryz.prog 185 #[.string s] w fun e w' => PaOut w w' e (zK s.data.toList) ∧ Below w.heap.size w w' := by
 have hGl := hG.lt
 have hrt := readT_le 6 s.data.toList
 simp only [Array.length_toList, ByteArray.size_data] at hrt
 go_enter Tryz.func185, Tryz.ntmps185
 go_wp2_with (fail)
 refine (readType_any 6 (w.heap.size + 1) s 0 _ (by omega) (by omega) (by unfold Rdr; simpa using heap_alloc_new (w.alloc _) _) hs (by omega) ((hG.kept (Below.heap_alloc w _ 0 hG.lt)).kept (Below.heap_alloc _ _ 0 (by simp <;> omega))) (by omega)).mono ?_
 rw [List.drop_zero, Nat.zero_add]
 cases hq : zZ 6 s.data.toList with
 | mk k o =>
 rw [hq] at hrt
 have hsl : s.data.toList.length = s.size := by simp
 cases o with
 | none =>
   have HP : Hid (zK s.data.toList = (k, none)) := by show _ = _; rw [zK, hq]
   clear hq
   rintro e w1 ⟨v, rfl, hv, hr, hon⟩
   obtain rfl : v = .agg #[.int .i64 0, .slice none 0 0] := hv
   have hc := pa_cell hon
   have hb := pa_below hon
   have f0 := zG hc
   have f1 := zF hc
   have f2 := zB hc 0
   have f3 := zB hc 1
   have hcz := two_stored (two_stored hc (.int .i64 0) (.slice none 0 0)) (.int .i64 0) (.slice none 0 0)
   have z0 := zG hcz
   have z1 := zF hcz
   have r0 := hr.c0
   have r1 := hr.c1
   have rl := hr.lt
   go_wp2
   go_region
   all_goals
    go_wp2
    refine bodyPost_ret (v := .tuple #[.agg #[.int .i64 0, .slice none 0 0], .int .i64 (k : Int), .int .i64 40]) (by simp [results, Tryz.results185, go_sem, z0, z1]) rfl ?_
    rw [HP.out]
    refine ⟨rfl, ?_⟩
    first
     | exact (((hb.setCell (Nat.le_refl _) _).setCell (Nat.le_refl _) _).setCell (Nat.le_refl _) _).setCell (Nat.le_refl _) _
     | exact ((((hb.setCell (Nat.le_refl _) _).setCell (Nat.le_refl _) _).setCell (Nat.le_refl _) _).setCell (Nat.le_refl _) _).drew
 | some t =>
   have HP : Hid (zK s.data.toList = if k < s.size then (k, none) else (0, some t)) := by show _ = _; rw [zK, hq, hsl]
   clear hq
   rintro e w1 ⟨v, rfl, hv, hr, hon⟩
   obtain ⟨A, c, rfl⟩ := TyAt.form hv
   have HV := Lib.hid hv
   have hc := pa_cell hon
   have hb := pa_below hon
   have f0 := zG hc
   have f1 := zF hc
   have f2 := zB hc 0
   have f3 := zB hc 1
   have hcz := two_stored (two_stored hc (.int .i64 t.kind) (.slice A t.args.length c)) (.int .i64 0) (.slice none 0 0)
   have z0 := zG hcz
   have z1 := zF hcz
   have hcy := two_stored (two_stored hc (.int .i64 t.kind) (.slice A t.args.length c)) (.int .i64 t.kind) (.slice A t.args.length c)
   have y0 := zG hcy
   have y1 := zF hcy
   have r0 := hr.c0
   have r1 := hr.c1
   have rl := hr.lt
   clear hv
   by_cases hk : k < s.size
   · have HP2 : Hid (zK s.data.toList = (k, none)) := by show _ = _; rw [HP.out, if_pos hk]
     go_wp2
     go_region
     all_goals
      go_wp2
      refine bodyPost_ret (v := .tuple #[.agg #[.int .i64 0, .slice none 0 0], .int .i64 (k : Int), .int .i64 40]) (by simp [results, Tryz.results185, go_sem, z0, z1]) rfl ?_
      rw [HP2.out]
      refine ⟨rfl, ?_⟩
      first
       | exact (((hb.setCell (Nat.le_refl _) _).setCell (Nat.le_refl _) _).setCell (Nat.le_refl _) _).setCell (Nat.le_refl _) _
       | exact ((((hb.setCell (Nat.le_refl _) _).setCell (Nat.le_refl _) _).setCell (Nat.le_refl _) _).setCell (Nat.le_refl _) _).drew
   · have HP2 : Hid (zK s.data.toList = (0, some t)) := by show _ = _; rw [HP.out, if_neg hk]
     go_wp2
     refine bodyPost_ret (v := .tuple #[.agg #[.int .i64 t.kind, .slice A t.args.length c], .int .i64 0, .int .i64 0]) (by simp [results, Tryz.results185, go_sem, y0, y1]) rfl ?_
     rw [HP2.out]
     refine ⟨⟨_, rfl, TyAt.move (fun b hS hl => ?_) _ _ _ HV.out⟩, (((hb.setCell (Nat.le_refl _) _).setCell (Nat.le_refl _) _).setCell (Nat.le_refl _) _).setCell (Nat.le_refl _) _⟩
     have hS' : w.heap.size + 1 + 1 ≤ b := by simpa using hS
     exact ⟨by omega, fun o => World.cell?_of_block (by rw [Below.heap_setCell _ _ _ _ (by show b ≠ w.heap.size; omega), Below.heap_setCell _ _ _ _ (by show b ≠ w.heap.size; omega), Below.heap_setCell _ _ _ _ (by show b ≠ w.heap.size; omega), Below.heap_setCell _ _ _ _ (by show b ≠ w.heap.size; omega)])⟩
section
variable {α : Type} {l l' : List α} {a b : Nat}
theorem take_sub (h : l.take a = l'.take a) (hb : b ≤ a) : l.take b = l'.take b := by
 have := congrArg (List.take b) h
 rwa [List.take_take, List.take_take, Nat.min_eq_left hb] at this
theorem take_drops (h : l.take (a + b) = l'.take (a + b)) : (l.drop a).take b = (l'.drop a).take b := by
 have := congrArg (List.drop a) h
 rwa [List.drop_take, List.drop_take, Nat.add_sub_cancel_left] at this
theorem take_head (h : l.take (a + 1) = l'.take (a + 1)) : (l.drop a).head? = (l'.drop a).head? := by
 have h2 := congrArg (fun x => x[a]?) h
 rw [List.head?_drop, List.head?_drop]
 simpa [List.getElem?_take] using h2
end
theorem readW_none : ∀ (l l' : List UInt8) (lw : List Wd) (n k : Nat), yL lw n l = (k, none) → l.take (k + 1) = l'.take (k + 1) → yL lw n l' = (k, none)
 | [], l', lw, n, k, h, ht => by
   simp only [yL, Prod.mk.injEq] at h
   obtain ⟨rfl, _⟩ := h
   cases l' with
   | nil => rfl
   | cons b r => simp at ht
 | b :: rest, l', lw, n, k, h, ht => by
   cases l' with
   | nil => simp at ht
   | cons b' rest' =>
     simp only [List.take_succ_cons, List.cons.injEq] at ht
     obtain ⟨rfl, ht⟩ := ht
     unfold yL at h ⊢
     cases ho : onW lw n b with
     | nil => simp only [ho] at h ⊢; exact h
     | cons x l2 =>
       simp only [ho] at h ⊢
       split
       · rename_i hx
         rw [if_pos hx, Prod.mk.injEq] at h
         obtain ⟨h1, h2⟩ := h
         have := readW_none rest rest' (x :: l2) (n + 1) _ (Prod.ext rfl h2) (by rw [h1]; exact ht)
         rw [this, ← h1]
       · rename_i hx
         rw [if_neg hx] at h
         exact h
theorem readW_some : ∀ (l l' : List UInt8) (lw : List Wd) (n k : Nat) (x : Wd), yL lw n l = (k, some x) → l.take k = l'.take k → yL lw n l' = (k, some x)
 | [], l', lw, n, k, x, h, ht => by simp [yL] at h
 | b :: rest, l', lw, n, k, x, h, ht => by
   unfold yL at h
   cases ho : onW lw n b with
   | nil => simp [ho] at h
   | cons y l2 =>
     simp only [ho] at h
     split at h
     · rename_i hx
       rw [Prod.mk.injEq] at h
       obtain ⟨h1, h2⟩ := h
       subst h1
       cases l' with
       | nil => simp at ht
       | cons b' rest' =>
         simp only [List.take_succ_cons, List.cons.injEq] at ht
         obtain ⟨rfl, ht⟩ := ht
         have := readW_some rest rest' (y :: l2) (n + 1) _ x (Prod.ext rfl h2) ht
         have e : yL lw n (b :: rest') = ((yL (y :: l2) (n + 1) rest').1 + 1, (yL (y :: l2) (n + 1) rest').2) := by
          rw [yL]
          simp only [ho, if_pos hx]
         rw [e, this]
     · rename_i hx
       rw [Prod.mk.injEq] at h
       obtain ⟨h1, h2⟩ := h
       subst h1
       cases l' with
       | nil => simp at ht
       | cons b' rest' =>
         simp only [List.take_succ_cons, List.cons.injEq] at ht
         obtain ⟨rfl, ht⟩ := ht
         unfold yL
         simp only [ho, if_neg hx, h2]
def Loc {α : Type} (f : List UInt8 → Nat × Option α) : Prop :=
 ∀ l l', (∀ k, f l = (k, none) → l.take (k + 1) = l'.take (k + 1) → f l' = (k, none)) ∧ (∀ k x, f l = (k, some x) → l.take k = l'.take k → f l' = (k, some x))
theorem readArgs_ge (rt : List UInt8 → Nat × Option Ty) (l : List UInt8) : ∀ (left i k : Nat) (acc : List Ty), k ≤ (zV rt l left i k acc).1
 | 0, _, k, _ => Nat.le_refl k
 | left + 1, i, k, acc => by
   unfold zV
   split
   · split
     · simp only; omega
     · rename_i m a _
       have := readArgs_ge rt l left (i + 1) (k + 1 + m) (acc ++ [a])
       omega
   · exact Nat.le_refl k
theorem readArgs_loc (rt : List UInt8 → Nat × Option Ty) (hrt : Loc rt) (l l' : List UInt8) : ∀ (left i k : Nat) (acc : List Ty),
    (∀ m, zV rt l left i k acc = (m, none) → l.take (m + 1) = l'.take (m + 1) → zV rt l' left i k acc = (m, none)) ∧
    (∀ m x, zV rt l left i k acc = (m, some x) → l.take m = l'.take m → zV rt l' left i k acc = (m, some x))
 | 0, _, k, acc => ⟨fun m h _ => h, fun m x h _ => h⟩
 | left + 1, i, k, acc => by
   unfold zV
   by_cases hh : (l.drop k).head? = some (aheadB i)
   · simp only [if_pos hh]
     cases hr : rt (l.drop (k + 1)) with
     | mk q o =>
       cases o with
       | none =>
         refine ⟨fun m h ht => ?_, fun m x h ht => by simp at h⟩
         simp only [Prod.mk.injEq] at h
         obtain ⟨rfl, _⟩ := h
         have hh' : (l'.drop k).head? = some (aheadB i) := by rw [← take_head (take_sub ht (by omega)), hh]
         have hr' := (hrt (l.drop (k + 1)) (l'.drop (k + 1))).1 q hr (take_drops (by rw [← Nat.add_assoc]; exact ht))
         rw [if_pos hh', hr']
       | some a =>
         have hih := readArgs_loc rt hrt l l' left (i + 1) (k + 1 + q) (acc ++ [a])
         have hge := readArgs_ge rt l left (i + 1) (k + 1 + q) (acc ++ [a])
         have key : ∀ m, k + 1 + q ≤ m → l.take m = l'.take m → (l'.drop k).head? = some (aheadB i) ∧ rt (l'.drop (k + 1)) = (q, some a) := fun m hm ht =>
          ⟨by rw [← take_head (take_sub ht (by omega)), hh], (hrt _ (l'.drop (k + 1))).2 q a hr (take_drops (take_sub ht hm))⟩
         refine ⟨fun m h ht => ?_, fun m x h ht => ?_⟩
         · simp only at h
           have hm : k + 1 + q ≤ m := by rw [h] at hge; exact hge
           obtain ⟨h1, h2⟩ := key (m + 1) (by omega) ht
           rw [if_pos h1, h2]
           exact hih.1 m h ht
         · simp only at h
           have hm : k + 1 + q ≤ m := by rw [h] at hge; exact hge
           obtain ⟨h1, h2⟩ := key m hm ht
           rw [if_pos h1, h2]
           exact hih.2 m x h ht
   · simp only [if_neg hh]
     refine ⟨fun m h ht => ?_, fun m x h ht => by simp at h⟩
     simp only [Prod.mk.injEq] at h
     obtain ⟨rfl, _⟩ := h
     rw [if_neg (by rw [← take_head ht]; exact hh)]
theorem readEnd_ge (x : Wd) (l : List UInt8) (p : Nat × Option (List Ty)) : p.1 ≤ (readEnd x l p).1 := by
 obtain ⟨k, o⟩ := p
 cases o with
 | none => exact Nat.le_refl k
 | some l2 =>
   simp only [readEnd]
   split
   · split <;> simp
   · exact Nat.le_refl k
theorem readT_loc : ∀ r : Nat, Loc (zZ r)
 | 0, l, l' => ⟨fun k h _ => h, fun k x h _ => by simp [zZ] at h⟩
 | r + 1, l, l' => by
   have hA := fun (x : Wd) (k : Nat) => readArgs_loc (zZ r) (readT_loc r) l l' x.args.toNat 0 k []
   unfold zZ
   cases hw : yL (fitW (r + 1 : Nat) words) 0 l with
   | mk k o =>
     cases o with
     | none =>
       refine ⟨fun m h ht => ?_, fun m x h ht => by simp at h⟩
       simp only [Prod.mk.injEq] at h
       obtain ⟨rfl, _⟩ := h
       rw [readW_none l l' _ 0 k hw ht]
     | some x =>
       have hge := readArgs_ge (zZ r) l x.args.toNat 0 k []
       have hge2 := readEnd_ge x l (zV (zZ r) l x.args.toNat 0 k [])
       have hAx := hA x k
       simp only
       cases hp : zV (zZ r) l x.args.toNat 0 k [] with
       | mk m o =>
         rw [hp] at hge hge2 hAx
         simp only at hge
         cases o with
         | none =>
           refine ⟨fun m' h ht => ?_, fun m' y h ht => by simp [readEnd] at h⟩
           simp only [readEnd, Prod.mk.injEq] at h
           obtain ⟨rfl, _⟩ := h
           rw [readW_some l l' _ 0 k x hw (take_sub ht (by omega))]
           simp only
           rw [hAx.1 m rfl ht, readEnd]
         | some l2 =>
           simp only [readEnd]
           by_cases hp0 : 0 < x.args
           · simp only [if_pos hp0]
             by_cases hh : (l.drop m).head? = some 41
             · simp only [if_pos hh]
               refine ⟨fun m' h ht => by simp at h, fun m' y h ht => ?_⟩
               simp only [Prod.mk.injEq] at h
               obtain ⟨rfl, h2⟩ := h
               rw [readW_some l l' _ 0 k x hw (take_sub ht (by omega))]
               simp only
               rw [hAx.2 m l2 rfl (take_sub ht (by omega))]
               simp only
               rw [if_pos hp0, if_pos (by rw [← take_head ht]; exact hh), h2]
             · simp only [if_neg hh]
               refine ⟨fun m' h ht => ?_, fun m' y h ht => by simp at h⟩
               simp only [Prod.mk.injEq] at h
               obtain ⟨rfl, _⟩ := h
               rw [readW_some l l' _ 0 k x hw (take_sub ht (by omega))]
               simp only
               rw [hAx.2 m l2 rfl (take_sub ht (by omega))]
               simp only
               rw [if_pos hp0, if_neg (by rw [← take_head ht]; exact hh)]
           · simp only [if_neg hp0]
             refine ⟨fun m' h ht => by simp at h, fun m' y h ht => ?_⟩
             simp only [Prod.mk.injEq] at h
             obtain ⟨rfl, h2⟩ := h
             rw [readW_some l l' _ 0 k x hw (take_sub ht (by omega))]
             simp only
             rw [hAx.2 m l2 rfl ht]
             simp only
             rw [if_neg hp0, h2]
theorem parseT_bad {l : List UInt8} {k : Nat} (h : zK l = (k, none)) :
    k ≤ l.length ∧ (zK (l.take k) = (k, none) ∨ ∃ t, zK (l.take k) = (0, some t)) ∧ (k < l.length → ∀ m, zK (l.take (k + 1) ++ m) = (k, none)) := by
 have hle := readT_le 6 l
 unfold zK at h
 cases hr : zZ 6 l with
 | mk q o =>
   rw [hr] at h hle
   simp only at hle
   cases o with
   | none =>
     simp only [Prod.mk.injEq] at h
     obtain ⟨rfl, _⟩ := h
     refine ⟨hle, .inl ?_, fun hlt m => ?_⟩
     · have hle2 := readT_le 6 (l.take q)
       rw [List.length_take, Nat.min_eq_left hle] at hle2
       cases hr2 : zZ 6 (l.take q) with
       | mk j o2 =>
         rw [hr2] at hle2
         simp only at hle2
         cases o2 with
         | some t =>
           have := (readT_loc 6 (l.take q) l).2 j t hr2 (by rw [List.take_take, Nat.min_eq_left hle2])
           rw [hr] at this
           simp at this
         | none =>
           rcases Nat.lt_or_ge j q with hlt | hge
           · have := (readT_loc 6 (l.take q) l).1 j hr2 (by rw [List.take_take, Nat.min_eq_left (by omega)])
             rw [hr] at this
             simp only [Prod.mk.injEq] at this
             omega
           · obtain rfl : j = q := by omega
             unfold zK
             rw [hr2]
     · have := (readT_loc 6 l (l.take (q + 1) ++ m)).1 q hr (by rw [List.take_append_of_le_length (by rw [List.length_take]; omega), List.take_take, Nat.min_self])
       unfold zK
       rw [this]
   | some t =>
     simp only at h
     split at h
     · rename_i hlt
       simp only [Prod.mk.injEq] at h
       obtain ⟨rfl, _⟩ := h
       refine ⟨hle, .inr ⟨t, ?_⟩, fun _ m => ?_⟩
       · have := (readT_loc 6 l (l.take q)).2 q t hr (by rw [List.take_take, Nat.min_self])
         unfold zK
         rw [this]
         simp only
         rw [if_neg (by rw [List.length_take]; omega)]
       · have := (readT_loc 6 l (l.take (q + 1) ++ m)).2 q t hr (by rw [List.take_append_of_le_length (by rw [List.length_take]; omega), List.take_take, Nat.min_eq_left (by omega)])
         unfold zK
         rw [this]
         simp only
         rw [if_pos (by rw [List.length_append, List.length_take]; omega)]
     · simp at h
end Go.Proofs.YtaecndmncpfpfaaGreatDoor.Knd
namespace Go.Proofs.YtaecndmncpfpfaaGreatDoor
open Go.RowKit
theorem bl_from (s : ByteArray) (m : Nat) : (s.extract m s.size).data.toList = (bl s).drop m := by
 unfold bl
 simp [ByteArray.data_extract, Array.toList_extract, List.extract, List.take_of_length_le]
theorem bl_to (s : ByteArray) (k : Nat) : (s.extract 0 k).data.toList = (bl s).take k := by
 unfold bl
 simp [ByteArray.data_extract, Array.toList_extract, List.extract]
theorem bl_data (s : ByteArray) : s.data.toList = bl s := rfl
set_option maxRecDepth 100000 in
set_option maxHeartbeats 4000000 in
theorem readType_any (R : Nat) (s : ByteArray) (m : Nat) (w : World) (hR : 0 < R) (hG : Knd.Glob w) (h : Rdr w R s m) :
    Calls Tryz.prog 177 #[.pointer (some ⟨R, 0, none⟩)] w fun e w' => TOut R s w e w' (typR Knd.zK (bl s) m) := by
 have hGl := hG.lt
 have hlen := h.len
 have hle := h.le
 have hRl := h.lt
 have c0 := zG h.box
 have c1 := zF h.box
 have HR := Lib.hid h
 have HG := Lib.hid hG
 obtain ⟨rs, hrs⟩ : ∃ rs, rs = s.extract m s.size := ⟨_, rfl⟩
 have hrz : rs.size = s.size - m := by rw [hrs]; simp
 have HRB : Hid (rs.data.toList = (bl s).drop m) := by show _ = _; rw [hrs, bl_from]
 clear h hG
 go_enter Tryz.func177, Tryz.ntmps177
 go_wp2_with (fail)
 go_quiet ((fail))
 rw [← hrs]
 go_wp2_with (fail)
 have hb1 : Below w.heap.size w ((w.alloc (.cells #[.int .i64 0, .slice none 0 0] 34)).drewN nq) := below_drewN ((Below.refl _ _).alloc (Nat.le_refl _) _) _
 have HC : Hid (((w.alloc (.cells #[.int .i64 0, .slice none 0 0] 34)).drewN nq).heap[w.heap.size]? = some (.cells #[.int .i64 0, .slice none 0 0] 34 (0, 0))) := heap_alloc_new w _
 have hs1 : ((w.alloc (.cells #[.int .i64 0, .slice none 0 0] 34)).drewN nq).heap.size = w.heap.size + 1 := by show (w.alloc _).heap.size = _; simp
 rw [← hrs]
 generalize (w.alloc (.cells #[.int .i64 0, .slice none 0 0] 34)).drewN nq = w1 at *
 have HG1 := Lib.hid (HG.out.kept (hb1.block 0 hGl))
 have HR1 := Lib.hid (HR.out.below hb1)
 refine (Knd.parse_any rs w1 (by omega) HG1.out).mono ?_
 rw [HRB.out]
 cases hp : Knd.zK ((bl s).drop m) with
 | mk k o =>
 cases o with
 | some t =>
   have HF : Hid (typR Knd.zK (bl s) m = (s.size, some t)) := by show _ = _; unfold typR; rw [hp, zT]
   clear hp
   rintro e w2 ⟨⟨v, rfl, hT⟩, hb2⟩
   obtain ⟨A, c, rfl⟩ := hT.form
   have HT := Lib.hid hT
   have HR2 := Lib.hid (HR1.out.below hb2)
   have HO2 : Hid (Only R w w2) := (Only.of_below hb1).trans (Only.of_below hb2)
   have HC2 := Lib.hid ((hb2.block w.heap.size (by omega)).trans HC.out)
   have x0 := zG HR2.out.box
   have x1 := zF HR2.out.box
   have xf := zB HR2.out.box 1
   have y0 := zG HC2.out
   have y1 := zF HC2.out
   have yf0 := zB HC2.out 0
   have yf1 := zB HC2.out 1
   have hl2 := zC HC2.out
   have hl3 := zC HR2.out.box
   clear hT hb2 c0 c1
   go_wp2_with (fail)
   refine bodyPost_ret (v := .tuple #[.agg #[.int .i64 t.kind, .slice A t.args.length c], .bool true]) (by simp [results, Tryz.results177, go_sem, y0, y1, hl2]) rfl ?_
   rw [HF.out]
   have hoo := HO2.out
   have hrr := HR2.out.go s.size (Nat.le_refl _)
   refine ⟨t.kind, A, t.args.length, c, true, rfl, ?_, ?_, rfl, fun t' ht => ?_⟩
   · refine Only.more (Only.far (p := ⟨w.heap.size, 1, none⟩) (Nat.le_refl _) (Only.far (p := ⟨w.heap.size, 0, none⟩) (Nat.le_refl _) (hoo.trans (Only.set_ R 1 w2 _))))
   · exact Rdr.more (Rdr.far (p := ⟨w.heap.size, 1, none⟩) (by show R ≠ w.heap.size; omega) (Rdr.far (p := ⟨w.heap.size, 0, none⟩) (by show R ≠ w.heap.size; omega) hrr))
   · cases ht
     refine ⟨rfl, rfl, 6, TyAt.move (fun b hb hl => ?_) _ _ _ HT.out⟩
     have hb' : w.heap.size + 1 ≤ b := by omega
     refine ⟨by omega, fun o => World.cell?_of_block ?_⟩
     rw [Below.heap_alloc _ _ _ (by simp only [setCell_heap_size]; exact hl), Below.heap_setCell _ _ _ _ (by show b ≠ w.heap.size; omega), Below.heap_setCell _ _ _ _ (by show b ≠ w.heap.size; omega), Below.heap_setCell _ _ _ _ (by show b ≠ R; omega)]
 | none =>
   have hk := (Knd.parseT_bad hp).1
   rw [List.length_drop, zT] at hk
   have HP := Lib.hid hp
   clear hp
   rintro e w2 ⟨he, hb2⟩
   obtain rfl : e = .returned (.tuple #[.agg #[.int .i64 0, .slice none 0 0], .int .i64 (k : Int), .int .i64 40]) := he
   have HR2 := Lib.hid (HR1.out.below hb2)
   have HO2 : Hid (Only R w w2) := (Only.of_below hb1).trans (Only.of_below hb2)
   have HC2 := Lib.hid ((hb2.block w.heap.size (by omega)).trans HC.out)
   have x0 := zG HR2.out.box
   have x1 := zF HR2.out.box
   have xf := zB HR2.out.box 1
   have hl2 := zC HC2.out
   have hl3 := zC HR2.out.box
   clear hb2 c0 c1
   have hkk : (k : Int) ≤ (rs.size : Int) := by omega
   go_wp2_with (fail)
   rw [← hrs]
   obtain ⟨u, hu⟩ : ∃ u, u = rs.extract 0 k := ⟨_, rfl⟩
   have huz : u.size ≤ 1000000 := by rw [hu]; simp; omega
   have HUB : Hid (u.data.toList = ((bl s).drop m).take k) := by show _ = _; rw [hu, bl_to, ← bl_data, HRB.out]
   have HR3 : Hid (Rdr (w2.setCell ⟨R, 1, none⟩ (.int .i64 ((m : Int) + (k : Int)))) R s (m + k)) := by
    have := HR2.out.go (m + k) (by omega)
    rw [Int.natCast_add] at this
    exact this
   have HO3 := Lib.hid (HO2.out.trans (Only.set_ R 1 w2 (.int .i64 ((m : Int) + (k : Int)))))
   have HC3 := Lib.hid ((Below.heap_setCell w2 ⟨R, 1, none⟩ (.int .i64 ((m : Int) + (k : Int))) w.heap.size (by show w.heap.size ≠ R; omega)).trans HC2.out)
   rw [← hu]
   clear hu x0 x1 xf
   have hw3s : (w2.setCell ⟨R, 1, none⟩ (.int .i64 ((m : Int) + (k : Int)))).heap.size = w2.heap.size := by simp
   generalize w2.setCell ⟨R, 1, none⟩ (.int .i64 ((m : Int) + (k : Int))) = w3 at *
   have hs3 := HO3.out.size
   have HG3 := Lib.hid (HG.out.kept (HO3.out.block 0 hGl (by simp <;> omega)))
   have HR4 := Lib.hid (Rdr.more (o := .cells #[.int .i64 0, .slice none 0 0] 34) HR3.out)
   have HO4 := Lib.hid (Only.more (o := .cells #[.int .i64 0, .slice none 0 0] 34) HO3.out)
   have hl3' := zC HC3.out
   have HC4 := Lib.hid ((Below.heap_alloc w3 (.cells #[.int .i64 0, .slice none 0 0] 34) _ hl3').trans HC3.out)
   have HG4 := Lib.hid (HG3.out.kept (Below.heap_alloc w3 (.cells #[.int .i64 0, .slice none 0 0] 34) 0 (by omega)))
   have HT4 : Hid ((w3.alloc (.cells #[.int .i64 0, .slice none 0 0] 34)).heap[w2.heap.size]? = some (.cells #[.int .i64 0, .slice none 0 0] 34 (0, 0))) := by
    have := heap_alloc_new w3 (.cells #[.int .i64 0, .slice none 0 0] 34)
    rw [hw3s] at this
    exact this
   have hs4 : (w3.alloc (.cells #[.int .i64 0, .slice none 0 0] 34)).heap.size = w3.heap.size + 1 := by simp
   generalize w3.alloc (.cells #[.int .i64 0, .slice none 0 0] 34) = w4 at *
   refine (Knd.parse_any u w4 huz HG4.out).mono ?_
   rw [HUB.out]
   have HF : Hid (typR Knd.zK (bl s) m = (m + k, (Knd.zK (((bl s).drop m).take k)).2)) := by show _ = _; unfold typR; rw [HP.out]
   cases hp2 : Knd.zK (((bl s).drop m).take k) with
   | mk k2 o2 =>
   cases o2 with
   | none =>
     have HF2 : Hid (typR Knd.zK (bl s) m = (m + k, none)) := by show _ = _; rw [HF.out, hp2]
     clear hp2
     rintro e w5 ⟨he, hb5⟩
     obtain rfl : e = .returned (.tuple #[.agg #[.int .i64 0, .slice none 0 0], .int .i64 (k2 : Int), .int .i64 40]) := he
     have HR5 := Lib.hid (HR4.out.below hb5)
     have HO5 : Hid (Only R w w5) := HO4.out.trans (Only.of_below hb5)
     have HC5 := Lib.hid ((hb5.block w.heap.size (by omega)).trans HC4.out)
     have y0 := zG HC5.out
     have y1 := zF HC5.out
     have yf0 := zB HC5.out 0
     have yf1 := zB HC5.out 1
     have hl5 := zC HC5.out
     have HT5 := Lib.hid ((hb5.block w2.heap.size (by omega)).trans HT4.out)
     have t0 := zG HT5.out
     have t1 := zF HT5.out
     have tf0 := zB HT5.out 0
     have tf1 := zB HT5.out 1
     have tl5 := zC HT5.out
     clear hb5
     go_wp2_with (fail)
     refine bodyPost_ret (v := .tuple #[.agg #[.int .i64 0, .slice none 0 0], .bool false]) (by simp [results, Tryz.results177, go_sem, y0, y1]) rfl ?_
     rw [HF2.out]
     have hoo := HO5.out
     have hrr := HR5.out
     refine ⟨0, none, 0, 0, false, rfl, ?_, ?_, rfl, fun t' ht => by cases ht⟩
     · (repeat' (first | with_reducible assumption | with_reducible refine Only.far ?_ ?_ | with_reducible refine Only.more ?_ | (dsimp only; omega)))
     · (repeat' (first | with_reducible assumption | with_reducible refine Rdr.far ?_ ?_ | with_reducible refine Rdr.more ?_ | (dsimp only; omega)))
   | some t =>
     have HF2 : Hid (typR Knd.zK (bl s) m = (m + k, some t)) := by show _ = _; rw [HF.out, hp2]
     clear hp2
     rintro e w5 ⟨⟨v, rfl, hT⟩, hb5⟩
     obtain ⟨A, c, rfl⟩ := hT.form
     have HT := Lib.hid hT
     have HR5 := Lib.hid (HR4.out.below hb5)
     have HO5 : Hid (Only R w w5) := HO4.out.trans (Only.of_below hb5)
     have HC5 := Lib.hid ((hb5.block w.heap.size (by omega)).trans HC4.out)
     have y0 := zG HC5.out
     have y1 := zF HC5.out
     have yf0 := zB HC5.out 0
     have yf1 := zB HC5.out 1
     have hl5 := zC HC5.out
     have HT5 := Lib.hid ((hb5.block w2.heap.size (by omega)).trans HT4.out)
     have t0 := zG HT5.out
     have t1 := zF HT5.out
     have tf0 := zB HT5.out 0
     have tf1 := zB HT5.out 1
     have tl5 := zC HT5.out
     clear hb5 hT
     go_wp2_with (fail)
     refine bodyPost_ret (v := .tuple #[.agg #[.int .i64 t.kind, .slice A t.args.length c], .bool true]) (by simp [results, Tryz.results177, go_sem, y0, y1]) rfl ?_
     rw [HF2.out]
     have hoo := HO5.out
     have hrr := HR5.out
     refine ⟨t.kind, A, t.args.length, c, true, rfl, ?_, ?_, rfl, fun t' ht => ?_⟩
     · (repeat' (first | with_reducible assumption | with_reducible refine Only.far ?_ ?_ | with_reducible refine Only.more ?_ | (dsimp only; omega)))
     · (repeat' (first | with_reducible assumption | with_reducible refine Rdr.far ?_ ?_ | with_reducible refine Rdr.more ?_ | (dsimp only; omega)))
     · cases ht
       refine ⟨rfl, rfl, 6, TyAt.move (fun b hb hl => ⟨by omega, fun o => World.cell?_of_block ?_⟩) _ _ _ HT.out⟩
       rw [Below.heap_setCell _ _ _ _ (by show b ≠ w.heap.size; omega), Below.heap_setCell _ _ _ _ (by show b ≠ w.heap.size; omega), Below.heap_setCell _ _ _ _ (by show b ≠ w2.heap.size; omega), Below.heap_setCell _ _ _ _ (by show b ≠ w2.heap.size; omega)]
