import Derived.Test.YtaecndmncpfpfaaGreatDoorCd
import Derived.RangeFuncNested
import Derived.RangeFuncBound
import Derived.RangeFuncCalls
import Derived.RangeFuncLeaves
import Derived.RangeFuncFrom
import Derived.Shelf.Abstract
import Derived.Shelf.RegionOpen
import Derived.WalkKit
import Derived.OwnWalkIn
import Derived.TacticsInMore
import Derived.LoopNIn
import Derived.LoopIn
namespace Go.Proofs.YtaecndmncpfpfaaGreatDoor
open Go.RowKit
structure WkAt (w : World) (W : Nat) (P : Nat → Prop) (d : Nat) (it : Ty) (sides : List Ty) (names : List (List UInt8 × Ty)) (NA : Option Addr) (nk : Nat) (at_ : Value) : Prop where
 box : ∃ A k SA sk, w.heap[W]? = some (.cells #[.int .i64 it.kind, .slice A it.args.length k, .slice SA sides.length sk, .slice NA names.length nk, at_] 79 (0, 0)) ∧ TyAt w P d (.agg #[.int .i64 it.kind, .slice A it.args.length k]) it ∧ Knd.yE w P d SA sides
 names : 0 < names.length → ∃ b o, NA = some ⟨b, o, none⟩ ∧ P b ∧ ∀ (j : Nat) (x : List UInt8 × Ty), names[j]? = some x → ∃ u0 u1, w.cell? ⟨b, o + j * 3, none⟩ = some (.string ⟨x.1.toArray⟩) ∧ w.cell? ⟨b, o + j * 3 + 1, none⟩ = some u0 ∧ w.cell? ⟨b, o + j * 3 + 2, none⟩ = some u1 ∧ TyAt w P d (.agg #[u0, u1]) x.2
 bound : ∀ k, P k → k < w.heap.size ∧ k ≠ W
def TyOut (no : Int) (w' : World) (S : Nat → Prop) (d : Nat) (e : Ending) : Option Ty → Prop
 | none => e = .returned (.tuple #[.agg #[.int .i64 0, .slice none 0 0], .int .i64 no])
 | some t => ∃ v, e = .returned (.tuple #[v, .int .i64 0]) ∧ TyAt w' S d v t
set_option maxRecDepth 100000 in
set_option maxHeartbeats 1000000 in
theorem side_any (W : Nat) (P : Nat → Prop) (d : Nat) (it : Ty) (sides : List Ty) (names : List (List UInt8 × Ty)) (NA : Option Addr) (nk : Nat) (at_ : Value) (i : Nat) (w : World) (h : WkAt w W P d it sides names NA nk at_) :
    Calls Tryz.prog 56 #[.pointer (some ⟨W, 0, none⟩), .int .i64 i] w fun e w' => TyOut 53 w' P d e sides[i]? ∧ Below w.heap.size w w' := by
 obtain ⟨⟨A, k, SA, sk, hb, hT, hS⟩, _, hbd⟩ := h
 have hl := zC hb
 have c2 : (w.alloc (.cells #[.int .i64 0, .slice none 0 0] 34)).cell? ⟨W, 2, none⟩ = some (.slice SA sides.length sk) := (World.cell?_of_block (Below.heap_alloc w _ W hl)).trans (by simp [World.cell?, hb])
 have HX := Lib.hid (heap_alloc_new w (.cells #[.int .i64 0, .slice none 0 0] 34))
 have hb1 := (Below.refl w.heap.size w).alloc (Nat.le_refl _) (.cells #[.int .i64 0, .slice none 0 0] 34)
 have HB1 := Lib.hid hb1
 have x0 := zG HX.out
 have x1 := zF HX.out
 have xf0 := zB HX.out 0
 have xf1 := zB HX.out 1
 have xl := zC HX.out
 have HS := Lib.hid hS
 clear hb hT hS hb1
 by_cases hi : i < sides.length
 · have g1 : ((i : Int) < (sides.length : Int)) := by omega
   obtain ⟨b, o, rfl, hPb, hc⟩ := HS.out (by omega)
   obtain ⟨t, ht⟩ : ∃ t, sides[i]? = some t := ⟨_, List.getElem?_eq_getElem hi⟩
   obtain ⟨u0, u1, k0, k1, k2⟩ := hc i t ht
   have hbl := (hbd b hPb).1
   have m0 := (HB1.out.cell (p := ⟨b, o + i * 2, none⟩) hbl).trans k0
   have m1 := (HB1.out.cell (p := ⟨b, o + i * 2 + 1, none⟩) hbl).trans k1
   obtain ⟨A6, k6, hv⟩ := k2.form
   injection hv with hv
   obtain ⟨rfl, rfl⟩ : u0 = .int .i64 t.kind ∧ u1 = .slice A6 t.args.length k6 := by
    have := congrArg Array.toList hv
    injection this with h1 h2
    injection h2 with h2 _
    exact ⟨h1, h2⟩
   have HK2 := Lib.hid k2
   have HT2 := Lib.hid ht
   have HBD := Lib.hid hbd
   clear hc k0 k1 k2 ht hv hbd hi
   go_enter Tryz.func56, Tryz.ntmps56
   go_wp2_with (fail)
   refine bodyPost_ret (v := .tuple #[.agg #[.int .i64 t.kind, .slice A6 t.args.length k6], .int .i64 0]) (by simp [results, Tryz.results56, go_sem]) rfl ?_
   rw [HT2.out]
   exact ⟨⟨_, rfl, HK2.out.set fun k hk => Below.heap_alloc w _ k (HBD.out k hk).1⟩, (Below.refl w.heap.size w).alloc (Nat.le_refl _) _⟩
 · have g1 : ¬ ((i : Int) < (sides.length : Int)) := by omega
   have HN : Hid (sides[i]? = none) := List.getElem?_eq_none (by omega)
   clear hi
   go_enter Tryz.func56, Tryz.ntmps56
   go_wp2_with (fail)
   refine bodyPost_ret (v := .tuple #[.agg #[.int .i64 0, .slice none 0 0], .int .i64 53]) (by simp [results, Tryz.results56, go_sem]) rfl ?_
   exact ⟨rfl, (Below.refl w.heap.size w).alloc (Nat.le_refl _) _⟩
end Go.Proofs.YtaecndmncpfpfaaGreatDoor
namespace Go.Proofs.YtaecndmncpfpfaaGreatDoor
open Go.RowKit Go.Shelf
attribute [local go_sem] Oper.semAt_some
theorem lt_of_cell {w : World} {a : Addr} {v : Value} (h : w.cell? a = some v) : a.block < w.heap.size := by
 cases hk : w.heap[a.block]? with
 | none => simp [World.cell?, hk] at h
 | some o => exact (Array.getElem?_eq_some_iff.1 hk).1
set_option maxRecDepth 100000 in
theorem nameEq_any (CB : Nat) (s called : List UInt8) (u0 u1 : Value) (w : World) (h : w.cell? ⟨CB, 0, none⟩ = some (.string ⟨called.toArray⟩)) :
    Calls Tryz.prog 92 #[.agg #[.string ⟨s.toArray⟩, u0, u1], .pointer (some ⟨CB, 0, none⟩)] w fun e w' => e = .returned (.bool (s == called)) ∧ Hid (w' = w.alloc (.cells #[.string ⟨s.toArray⟩, u0, u1] 160)) := by
 have hx := (World.cell?_of_block (Below.heap_alloc w (.cells #[.string ⟨s.toArray⟩, u0, u1] 160) CB (lt_of_cell h))).trans h
 clear h
 go_enter Tryz.func92, Tryz.ntmps92
 go_wp2_with (fail)
 refine bodyPost_ret (v := .bool (s == called)) (by simp [results, Tryz.results92, go_sem]) rfl ?_
 exact ⟨rfl, Lib.hid rfl⟩
abbrev Bnd := Nat × List UInt8 × Int × Option Addr × Nat × Nat
def bkd (g : Nat → Bnd) (len k : Nat) : List Bnd := (List.range k).map fun i => g (len - 1 - i)
theorem bkd_succ (g : Nat → Bnd) (len k : Nat) : bkd g len (k + 1) = bkd g len k ++ [g (len - 1 - k)] := by simp [bkd, List.range_succ]
theorem bkd_length (g : Nat → Bnd) (len k : Nat) : (bkd g len k).length = k := by simp [bkd]
theorem bkd_mem {f : Nat → List UInt8 × Int × Option Addr × Nat × Nat} {len k i : Nat} (h : i < len) (hk : len - 1 - i < k) : (i, f i) ∈ bkd (fun j => (j, f j)) len k := by
 unfold bkd
 refine List.mem_map.2 ⟨len - 1 - i, List.mem_range.2 hk, ?_⟩
 rw [show len - 1 - (len - 1 - i) = i by omega]
theorem bkd_last {f : Nat → List UInt8 × Int × Option Addr × Nat × Nat} {len k : Nat} {pre : List Bnd} {x : Bnd} (hk : k ≤ len) (h : bkd (fun j => (j, f j)) len k = pre ++ [x]) : ∃ j, j < len ∧ x = (j, f j) ∧ ∀ i, j < i → i < len → (i, f i) ∈ pre := by
 cases k with
 | zero => have := congrArg List.length h; simp [bkd] at this
 | succ k =>
   rw [bkd_succ] at h
   obtain ⟨h1, h2⟩ := List.append_inj' h rfl
   injection h2 with h2 _
   subst h1
   exact ⟨len - 1 - k, by omega, h2.symm, fun i hi hl => bkd_mem hl (by omega)⟩
set_option maxRecDepth 100000 in
set_option maxHeartbeats 2000000 in
theorem bk1_in (F : Fence) (n : Nat) (h8 : F.fn 163) (hro : F.round = none) (hn : 1 ≤ n) (l Bs n₀ b off len cap : Nat) (f : Nat → List UInt8 × Int × Option Addr × Nat × Nat) (hlen : len ≤ 1000) (hb : b < n₀) (J Jx : List Bnd → World → Prop)
    (hY : ∀ pre x W, J pre W → pre.length < len → YieldAt F (n - 1) Tryz.prog l #[.int .i64 (x.1 : Int), .agg #[.string ⟨x.2.1.toArray⟩, .int .i64 x.2.2.1, .slice x.2.2.2.1 x.2.2.2.2.1 x.2.2.2.2.2]] W fun e W' =>
      (e = .returned (.bool true) ∧ J (pre ++ [x]) W' ∧ Below n₀ W W') ∨ (e = .returned (.bool false) ∧ Jx (pre ++ [x]) W'))
    (W : World) (hBs : W.cell? ⟨Bs, 0, none⟩ = some (.slice (some ⟨b, off, none⟩) len cap)) (hBl : Bs < n₀)
    (hc0 : ∀ j, j < len → W.cell? ⟨b, off + j * 3, none⟩ = some (.string ⟨(f j).1.toArray⟩)) (hc1 : ∀ j, j < len → W.cell? ⟨b, off + j * 3 + 1, none⟩ = some (.int .i64 (f j).2.1)) (hc2 : ∀ j, j < len → W.cell? ⟨b, off + j * 3 + 2, none⟩ = some (.slice (f j).2.2.1 (f j).2.2.2.1 (f j).2.2.2.2)) (h0 : J [] W) :
    CallsIn F n Tryz.prog 163 #[.func (.yield l) #[] #[], .pointer (some ⟨Bs, 0, none⟩)] W fun e W' => (∃ v, e = .returned v) ∧
     ((∃ ys, ys = bkd (fun j => (j, f j)) len len ∧ J ys W') ∨ (∃ pre, (∃ k, k ≤ len ∧ pre = bkd (fun j => (j, f j)) len k) ∧ Jx pre W')) := by
 refine callsIn_of_wp Tryz.func163 rfl h8 ?_ hro
 simp only [Tryz.ntmps163, List.size_toArray, List.length_cons, List.length_nil, Nat.reduceAdd, Nat.reduceSub, Array.replicate_succ, Array.replicate_zero, List.push_toArray, List.append_toArray, List.nil_append, List.cons_append]
 gi_wp2
 gi_loopw [3] (fun i wr => ∃ k : Nat, k ≤ len ∧ i = .int .i64 ((len : Int) - 1 - k) ∧ J (bkd (fun j => (j, f j)) len k) wr ∧ Below n₀ W wr)
  (fun i _ => (intOf i + 1).toNat)
 case atStart => exact ⟨0, Nat.zero_le _, by simp, h0, Below.refl _ _⟩
 case round =>
  obtain ⟨k, hk, rfl, hJs, hnx⟩ := hrel
  by_cases hlt : k < len
  · obtain ⟨i, hi⟩ : ∃ i : Nat, i = len - 1 - k := ⟨_, rfl⟩
    have hil : i < len := by omega
    have hie : (len : Int) - 1 - k = (i : Int) := by omega
    obtain ⟨fn, tmps, assign, body, hy, hR⟩ := hY _ (i, f i) wr hJs (by rw [bkd_length]; exact hlt)
    dsimp only at hy
    have hs := (hnx.cell (p := ⟨Bs, 0, none⟩) hBl).trans hBs
    have e0 := (hnx.cell (p := ⟨b, off + i * 3, none⟩) hb).trans (hc0 i hil)
    have e1 := (hnx.cell (p := ⟨b, off + i * 3 + 1, none⟩) hb).trans (hc1 i hil)
    have e2 := (hnx.cell (p := ⟨b, off + i * 3 + 2, none⟩) hb).trans (hc2 i hil)
    have HC := Lib.hid hc0
    have HC1 := Lib.hid hc1
    have HC2 := Lib.hid hc2
    clear hc0 hc1 hc2 hBs
    have HI := Lib.hid hi
    have HIE := Lib.hid hie
    rw [hie]
    clear hi hie
    gi_wp2
    refine hR.mono ?_
    rintro e W3 (⟨rfl, hJ3, hk3⟩ | ⟨rfl, hJx3⟩)
    · gi_wp2
      go_roundw
      case rel => exact ⟨k + 1, by omega, by rw [← HIE.out]; go_num, by rw [bkd_succ, ← HI.out]; exact hJ3, hnx.trans hk3⟩
      case measure =>
       have := HIE.out
       simp [intOf]
    · gi_wp2
      refine bodyPost_ret (results_none rfl _ _ _) rfl ?_
      exact ⟨⟨_, rfl⟩, .inr ⟨_, ⟨k + 1, by omega, by rw [bkd_succ, ← HI.out]⟩, hJx3⟩⟩
  · obtain rfl : k = len := by omega
    rw [show (k : Int) - 1 - k = -1 by omega]
    gi_wp2
    go_end0
    exact ⟨⟨_, rfl⟩, .inl ⟨_, rfl, hJs⟩⟩
set_option maxRecDepth 100000 in
set_option maxHeartbeats 1000000 in
theorem bk1_nil_in (F : Fence) (n : Nat) (h8 : F.fn 163) (hro : F.round = none) (l Bs k : Nat) (J : List Bnd → World → Prop) (W : World) (hBs : W.cell? ⟨Bs, 0, none⟩ = some (.slice none 0 k)) (h0 : J [] W) :
    CallsIn F n Tryz.prog 163 #[.func (.yield l) #[] #[], .pointer (some ⟨Bs, 0, none⟩)] W fun e W' => (∃ v, e = .returned v) ∧ J [] W' := by
 refine callsIn_of_wp Tryz.func163 rfl h8 ?_ hro
 simp only [Tryz.ntmps163, List.size_toArray, List.length_cons, List.length_nil, Nat.reduceAdd, Nat.reduceSub, Array.replicate_succ, Array.replicate_zero, List.push_toArray, List.append_toArray, List.nil_append, List.cons_append]
 gi_wp2
 gi_loopw [3] (fun i wr => i = .int .i64 (-1) ∧ J [] wr) (fun _ _ => 0)
 case atStart => exact ⟨rfl, h0⟩
 case round =>
  obtain ⟨rfl, hJs⟩ := hrel
  gi_wp2
  go_end0
  exact ⟨⟨_, rfl⟩, hJs⟩
set_option maxHeartbeats 1000000 in
theorem backward_in (F : Fence) (n : Nat) (h5 : F.fn 134) (hro : F.round = none) (a : Option Addr) (len cap : Nat) (w : World) :
    CallsIn F n Tryz.prog 134 #[.slice a len cap] w fun e w' => e = .returned (.func (.func 163) #[] #[.pointer (some ⟨w.heap.size, 0, none⟩)]) ∧ w' = w.alloc (.cells #[.slice a len cap] 77) := by
 refine callsIn_of_wp Tryz.func134 rfl h5 ?_ hro
 simp only [Tryz.ntmps134, List.size_toArray, List.length_cons, List.length_nil, Nat.reduceAdd, Nat.reduceSub, Array.replicate_succ, Array.replicate_zero, List.push_toArray, List.append_toArray, List.nil_append, List.cons_append]
 gi_wp2
 go_ret
 exact ⟨rfl, rfl⟩
def BnAt (w : World) (n₀ : Nat) (NA : Option Addr) (len : Nat) (f : Nat → List UInt8 × Int × Option Addr × Nat × Nat) : Prop :=
 0 < len → ∃ b o, NA = some ⟨b, o, none⟩ ∧ b < n₀ ∧ ∀ j, j < len → w.cell? ⟨b, o + j * 3, none⟩ = some (.string ⟨(f j).1.toArray⟩) ∧ w.cell? ⟨b, o + j * 3 + 1, none⟩ = some (.int .i64 (f j).2.1) ∧ w.cell? ⟨b, o + j * 3 + 2, none⟩ = some (.slice (f j).2.2.1 (f j).2.2.2.1 (f j).2.2.2.2)
theorem backward_stops (F : Fence) (n : Nat) (h7 : F.fn 163) (hro : F.round = none) (hn : 1 ≤ n) (Bs n₀ : Nat) (NA : Option Addr) (len cap : Nat) (f : Nat → List UInt8 × Int × Option Addr × Nat × Nat) (hlen : len ≤ 1000) (hnil : len = 0 → NA = none) (w : World) (hBs : Bs < n₀) (hn₀ : n₀ ≤ w.heap.size)
    (hc : w.cell? ⟨Bs, 0, none⟩ = some (.slice NA len cap)) (hI : BnAt w n₀ NA len f) :
    SeqStopsK F n Tryz.prog 163 #[.pointer (some ⟨Bs, 0, none⟩)] (fun x : Bnd => #[Value.int .i64 (x.1 : Int), .agg #[.string ⟨x.2.1.toArray⟩, .int .i64 x.2.2.1, .slice x.2.2.2.1 x.2.2.2.2.1 x.2.2.2.2.2]]) (Below n₀) (fun ys => ys = bkd (fun j => (j, f j)) len len) (fun pre => ∃ k, k ≤ len ∧ pre = bkd (fun j => (j, f j)) len k) len w := fun l J Jx W hW _ _ hY h0 => by
 have hc' := (hW.cell (p := ⟨Bs, 0, none⟩) (by show Bs < _; omega)).trans hc
 by_cases hl : 0 < len
 · obtain ⟨b, o, rfl, hb, hcs⟩ := hI hl
   have mv : ∀ {o : Nat} {v : Value}, w.cell? ⟨b, o, none⟩ = some v → W.cell? ⟨b, o, none⟩ = some v := fun {o v} h => (hW.cell (p := ⟨b, o, none⟩) (by show b < _; omega)).trans h
   exact bk1_in F n h7 hro hn l Bs n₀ b o len cap f hlen hb J Jx hY W hc' hBs (fun j hj => mv (hcs j hj).1) (fun j hj => mv (hcs j hj).2.1) (fun j hj => mv (hcs j hj).2.2) h0
 · obtain rfl : len = 0 := by omega
   obtain rfl := hnil rfl
   exact (bk1_nil_in F n h7 hro l Bs cap J W hc' h0).mono fun e W' ⟨he, hj⟩ => ⟨he, .inl ⟨_, rfl, hj⟩⟩
theorem zD {w : World} {b : Nat} {xs : Array Value} {t : TypeId} {i : Nat} {x : Value} (h : w.heap[b]? = some (.cells xs t (0, 0))) (hx : xs[i]? = some x) : w.cell? ⟨b, i, none⟩ = some x := by simp [World.cell?, h, hx]
theorem zI {w : World} {b : Nat} {xs : Array Value} {t : TypeId} {i : Nat} (h : w.heap[b]? = some (.cells xs t (0, 0))) : w.frozen? ⟨b, i, none⟩ = false := by simp [World.frozen?, h]
def Bxs (W : World) (B : Nat) (t : TypeId) (vs : Array Value) : Prop := W.heap[B]? = some (.cells vs t (0, 0))
theorem Bxs.kept {W W' : World} {row : Option Nat} {B : Nat} {t : TypeId} {v : Array Value} (h : Bxs W B t v) (hg : W.grownBy W' row) (hne : some B ≠ row) : Bxs W' B t v := (hg.block B (zC h) hne).trans h
theorem bxs_own {β : Type} (B : Nat) (t : TypeId) (f : β → Array Value) : Own (fun s W => Bxs W B t (f s)) := fun s X Y row hs hg hrow =>
 hs.kept hg (fun e' => by obtain ⟨o, ho, hc⟩ := hrow B e'.symm; rw [show X.heap[B]? = _ from hs] at ho; cases ho; cases hc)
theorem Bxs.alloc {W : World} {B : Nat} {t : TypeId} {v : Array Value} (h : Bxs W B t v) (o : Obj) : Bxs (W.alloc o) B t v := (Below.heap_alloc W o B (zC h)).trans h
theorem Bxs.set {W : World} {B : Nat} {t : TypeId} {vs : Array Value} (h : Bxs W B t vs) (i : Nat) (v : Value) : Bxs (W.setCell ⟨B, i, none⟩ v) B t (vs.setIfInBounds i v) := by
 have h' : W.heap[B]? = some (.cells vs t (0, 0)) := h
 simp [Bxs, World.setCell, Array.getElem?_modify, h']
theorem Bxs.other {W : World} {B B' : Nat} {t : TypeId} {vs : Array Value} (h : Bxs W B t vs) (hne : B ≠ B') (i : Nat) (v : Value) : Bxs (W.setCell ⟨B', i, none⟩ v) B t vs := (Below.heap_setCell _ _ _ _ (by show B ≠ B'; exact hne)).trans h
def LastOut (called : List UInt8) (len : Nat) (f : Nat → List UInt8 × Int × Option Addr × Nat × Nat) (e : Ending) : Prop :=
 (e = .returned (.tuple #[.agg #[.string ⟨#[]⟩, .int .i64 0, .slice none 0 0], .bool false]) ∧ ∀ j, j < len → (f j).1 ≠ called) ∨
 ∃ j, j < len ∧ (f j).1 = called ∧ (∀ i, j < i → i < len → (f i).1 ≠ called) ∧ e = .returned (.tuple #[.agg #[.string ⟨(f j).1.toArray⟩, .int .i64 (f j).2.1, .slice (f j).2.2.1 (f j).2.2.2.1 (f j).2.2.2.2], .bool true])
set_option maxRecDepth 100000 in
set_option maxHeartbeats 2000000 in
theorem lastOf_any (CB : Nat) (called : List UInt8) (NA : Option Addr) (len cap : Nat) (f : Nat → List UInt8 × Int × Option Addr × Nat × Nat) (hlen : len ≤ 1000) (hnil : len = 0 → NA = none) (w : World)
    (hC : w.cell? ⟨CB, 0, none⟩ = some (.string ⟨called.toArray⟩)) (hI : BnAt w w.heap.size NA len f) :
    Calls Tryz.prog 91 #[.slice NA len cap, .func (.func 92) #[] #[.pointer (some ⟨CB, 0, none⟩)]] w fun e w' => LastOut called len f e ∧ Below w.heap.size w w' := by
 refine (callsIn_wide (n := 5)).1 ?_
 refine callsIn_of_wp_marks Tryz.func91 rfl trivial ?_ rfl
 simp only [Tryz.ntmps91, List.size_toArray, List.length_cons, List.length_nil, Nat.reduceAdd, Nat.reduceSub, Array.replicate_succ, Array.replicate_zero, List.push_toArray, List.append_toArray, List.nil_append, List.cons_append]
 gi_wp2_with (refine ⟨trivial, ?_⟩; gi_at_call 134; refine (backward_in Fence.wide (5 - 1) trivial rfl _ _ _ _).mono ?_; rintro e _ ⟨rfl, rfl⟩)
 obtain ⟨W0, hW0⟩ : ∃ W0, (((w.alloc (.cells #[.func (.func 92) #[] #[.pointer (some ⟨CB, 0, none⟩)]] 163)).alloc (.cells #[.string ⟨#[]⟩, .int .i64 0, .slice none 0 0] 160)).alloc (.cells #[.bool false] 4)).alloc (.cells #[.slice NA len cap] 77) = W0 := ⟨_, rfl⟩
 have hB0 : Below w.heap.size w W0 := by
  rw [← hW0]
  exact ((((Below.refl _ w).alloc (Nat.le_refl _) _).alloc (by simp) _).alloc (by simp; omega) _).alloc (by simp; omega) _
 have hsz : W0.heap.size = w.heap.size + 4 := by rw [← hW0]; simp
 have b0 : Bxs W0 w.heap.size 163 #[.func (.func 92) #[] #[.pointer (some ⟨CB, 0, none⟩)]] := by
  rw [← hW0]
  exact Bxs.alloc (Bxs.alloc (Bxs.alloc (heap_alloc_new w _) _) _) _
 have b1 : Bxs W0 (w.heap.size + 1) 160 #[.string ⟨#[]⟩, .int .i64 0, .slice none 0 0] := by
  rw [← hW0]
  refine Bxs.alloc (Bxs.alloc ?_ _) _
  simpa [Bxs] using heap_alloc_new (w.alloc (.cells #[.func (.func 92) #[] #[.pointer (some ⟨CB, 0, none⟩)]] 163)) (.cells #[.string ⟨#[]⟩, .int .i64 0, .slice none 0 0] 160)
 have b2 : Bxs W0 (w.heap.size + 2) 4 #[.bool false] := by
  rw [← hW0]
  refine Bxs.alloc ?_ _
  simpa [Bxs] using heap_alloc_new ((w.alloc (.cells #[.func (.func 92) #[] #[.pointer (some ⟨CB, 0, none⟩)]] 163)).alloc (.cells #[.string ⟨#[]⟩, .int .i64 0, .slice none 0 0] 160)) (.cells #[.bool false] 4)
 have b3 : W0.cell? ⟨w.heap.size + 1 + 1 + 1, 0, none⟩ = some (.slice NA len cap) := by
  have h3 := heap_alloc_new (((w.alloc (.cells #[.func (.func 92) #[] #[.pointer (some ⟨CB, 0, none⟩)]] 163)).alloc (.cells #[.string ⟨#[]⟩, .int .i64 0, .slice none 0 0] 160)).alloc (.cells #[.bool false] 4)) (.cells #[.slice NA len cap] 77)
  rw [hW0] at h3
  simp only [World.size_alloc] at h3
  exact zD h3 rfl
 rw [hW0]
 clear hW0
 have hI0 : BnAt W0 (w.heap.size + 4) NA len f := fun hl => by
  obtain ⟨b, o, e, hb, h⟩ := hI hl
  exact ⟨b, o, e, by omega, fun j hj => ⟨(hB0.cell (p := ⟨b, _, none⟩) hb).trans (h j hj).1, (hB0.cell (p := ⟨b, _, none⟩) hb).trans (h j hj).2.1, (hB0.cell (p := ⟨b, _, none⟩) hb).trans (h j hj).2.2⟩⟩
 refine wpIn_rangeFunc_ownH rfl (by omega) (gf := 163) (lb := #[.pointer (some ⟨w.heap.size + 1 + 1 + 1, 0, none⟩)]) rfl trivial (enters_of Tryz.func163 (by kernel_rfl) rfl)
  (backward_stops Fence.wide (5 - 1) trivial rfl (by omega) (w.heap.size + 1 + 1 + 1) (w.heap.size + 4) NA len cap f hlen hnil W0 (by omega) (by omega) b3 hI0) belowK_t (belowK_b (by omega)) (Below.refl _ _) (fun _ => rfl)
  (fun pre W => ((((∀ x ∈ pre, x.2.1 ≠ called) ∧ Bxs W w.heap.size 163 #[.func (.func 92) #[] #[.pointer (some ⟨CB, 0, none⟩)]]) ∧ Bxs W (w.heap.size + 1) 160 #[.string ⟨#[]⟩, .int .i64 0, .slice none 0 0]) ∧ Bxs W (w.heap.size + 2) 4 #[.bool false]) ∧ Below w.heap.size W0 W)
  (fun c pre W => ((c = .ret ∧ ∃ (pre' : List Bnd) (x : Bnd), pre = pre' ++ [x] ∧ (∀ y ∈ pre', y.2.1 ≠ called) ∧ x.2.1 = called ∧ Bxs W (w.heap.size + 1) 160 #[.string ⟨x.2.1.toArray⟩, .int .i64 x.2.2.1, .slice x.2.2.2.1 x.2.2.2.2.1 x.2.2.2.2.2]) ∧ Bxs W (w.heap.size + 2) 4 #[.bool true]) ∧ Below w.heap.size W0 W)
  (OwnFrom.and (OwnFrom.and (OwnFrom.and (OwnFrom.and (ownFrom_pure _ _) (Own.from (bxs_own _ _ _) _)) (Own.from (bxs_own _ _ _) _)) (Own.from (bxs_own _ _ _) _)) (ownFrom_below (by omega) (by omega)))
  (fun c => OwnFrom.and (OwnFrom.and (fun s W W' row hs hg hr => by
    obtain ⟨h1, pre', x, h2, h3, h4, h5⟩ := hs
    exact ⟨h1, pre', x, h2, h3, h4, bxs_own (w.heap.size + 1) 160 (fun (_ : Unit) => #[.string ⟨x.2.1.toArray⟩, .int .i64 x.2.2.1, .slice x.2.2.2.1 x.2.2.2.2.1 x.2.2.2.2.2]) () W W' row h5 hg (fun r e => (hr r e).2)⟩) (Own.from (bxs_own _ _ _) _)) (ownFrom_below (by omega) (by omega)))
  ⟨⟨⟨⟨by simp, b0⟩, b1⟩, b2⟩, Below.refl _ _⟩
  (fun x a' W => ∃ Bx, w.heap.size + 4 ≤ Bx ∧ Bxs W Bx 160 #[.string ⟨x.2.1.toArray⟩, .int .i64 x.2.2.1, .slice x.2.2.2.1 x.2.2.2.2.1 x.2.2.2.2.2] ∧ a' = { tmps := #[.slice NA len cap, .func (.func 92) #[] #[.pointer (some ⟨CB, 0, none⟩)], undef, .pointer (some ⟨w.heap.size, 0, none⟩), .pointer (some ⟨w.heap.size + 1, 0, none⟩), .pointer (some ⟨w.heap.size + 1 + 1, 0, none⟩), undef, .pointer (some ⟨Bx, 0, none⟩), .slice NA len cap, .func (.func 163) #[] #[.pointer (some ⟨w.heap.size + 1 + 1 + 1, 0, none⟩)], .int .i64 (x.1 : Int), .agg #[.string ⟨x.2.1.toArray⟩, .int .i64 x.2.2.1, .slice x.2.2.2.1 x.2.2.2.2.1 x.2.2.2.2.2], undef, undef, undef, undef, undef], defers := [] })
  (fun x a' _ X Y row hs hg hr => by obtain ⟨Bx, e1, e2, e3⟩ := hs; exact ⟨Bx, e1, bxs_own Bx 160 (fun (_ : Unit) => #[.string ⟨x.2.1.toArray⟩, .int .i64 x.2.2.1, .slice x.2.2.2.1 x.2.2.2.2.1 x.2.2.2.2.2]) () X Y row e2 hg (fun r e => (hr r e).2), e3⟩)
  ?assign ?body ?done ?stop
 case assign =>
  rintro l pre ⟨ix, nm, kd, ka, kl, kc⟩ W K ⟨⟨⟨⟨hp, c0⟩, c1⟩, c2⟩, hB1⟩ hK
  have n1 := heap_alloc_new W (.cells #[.string ⟨nm.toArray⟩, .int .i64 0, .slice none 0 0] 160)
  have n2 := heap_alloc_new W (.cells #[.string ⟨nm.toArray⟩, .int .i64 kd, .slice none 0 0] 160)
  have e1 := zD (i := 1) n1 rfl
  have f1 := zI (i := 1) n1
  have e2 := zD (i := 2) n2 rfl
  have f2 := zI (i := 2) n2
  have hsW := hB1.size
  gi_wp2
  exact hK _ _ ((KeepsOthers.alloc _ _).from _) ((Below.refl _ W).alloc (by omega) _) ⟨⟨⟨⟨hp, c0.alloc _⟩, c1.alloc _⟩, c2.alloc _⟩, hB1.alloc (by omega) _⟩ ⟨W.heap.size, by omega, heap_alloc_new W _, rfl⟩
 case body =>
  rintro l pre ⟨ix, nm, kd, ka, kl, kc⟩ a' W hl _ ⟨⟨⟨⟨hp, c0⟩, c1⟩, c2⟩, hB1⟩ ⟨Bx, hBx, bX, rfl⟩ hlt
  have d0 := zD (i := 0) c0 rfl
  have d1 := zD (i := 0) bX rfl
  have d2 := zD (i := 1) bX rfl
  have d3 := zD (i := 2) bX rfl
  have hsW := hB1.size
  gi_wp2_with (refine ⟨trivial, ?_⟩; gi_at_call 92; refine (CallsIn.inRound l (callsIn_wide.2 (nameEq_any CB nm called _ _ W (((hB0.trans hB1).cell (p := ⟨CB, 0, none⟩) (lt_of_cell hC)).trans hC)))).mono ?_)
  rintro e w' rfl HW
  have hW := HW.out
  clear HW
  subst hW
  have c0' := c0.alloc (.cells #[.string ⟨nm.toArray⟩, .int .i64 kd, .slice ka kl kc] 160)
  have c1' := c1.alloc (.cells #[.string ⟨nm.toArray⟩, .int .i64 kd, .slice ka kl kc] 160)
  have c2' := c2.alloc (.cells #[.string ⟨nm.toArray⟩, .int .i64 kd, .slice ka kl kc] 160)
  have bX' := Bxs.alloc bX (.cells #[.string ⟨nm.toArray⟩, .int .i64 kd, .slice ka kl kc] 160)
  have hBN := hB1.alloc (by omega) (.cells #[.string ⟨nm.toArray⟩, .int .i64 kd, .slice ka kl kc] 160)
  have hKN : KeepsFrom W0.heap.size W (W.alloc (.cells #[.string ⟨nm.toArray⟩, .int .i64 kd, .slice ka kl kc] 160)) := (KeepsOthers.alloc _ _).from _
  have hBQ : Below (w.heap.size + 4) W (W.alloc (.cells #[.string ⟨nm.toArray⟩, .int .i64 kd, .slice ka kl kc] 160)) := (Below.refl _ W).alloc (by omega) _
  have hsN : W.heap.size ≤ (W.alloc (.cells #[.string ⟨nm.toArray⟩, .int .i64 kd, .slice ka kl kc] 160)).heap.size := hBQ.size
  clear d0 d1 d2 d3
  generalize W.alloc (.cells #[.string ⟨nm.toArray⟩, .int .i64 kd, .slice ka kl kc] 160) = W2 at *
  clear c0 c1 c2 bX
  have d1 := zD (i := 0) bX' rfl
  have d2 := zD (i := 1) bX' rfl
  have d3 := zD (i := 2) bX' rfl
  have r0 := zD (i := 0) c1' rfl
  have r1 := zD (i := 1) c1' rfl
  have r2 := zD (i := 2) c1' rfl
  have q0 := zD (i := 0) c2' rfl
  have s0 := zI (i := 0) c1'
  have s1 := zI (i := 1) c1'
  have s2 := zI (i := 2) c1'
  have p0 := zI (i := 0) c2'
  by_cases hnm : nm = called
  · have hq : (nm == called) = true := by simp [hnm]
    rw [hq]
    gi_wp2
    subst hnm
    refine ⟨(((hKN.trans ((KeepsOthers.setCell _ _ _).from _)).trans ((KeepsOthers.setCell _ _ _).from _)).trans ((KeepsOthers.setCell _ _ _).from _)).trans ((KeepsOthers.setCell _ _ _).from _), ⟨⟨rfl, pre, _, rfl, hp, rfl, ?_⟩, ?_⟩, ?_⟩
    · exact (((c1'.set 0 _).set 1 _).set 2 _).other (by omega) _ _
    · exact (((c2'.other (by omega) 0 _).other (by omega) 1 _).other (by omega) 2 _).set 0 _
    · exact (((hBN.setCell (p := ⟨w.heap.size + 1, 0, none⟩) (Nat.le_succ _) _).setCell (p := ⟨w.heap.size + 1, 1, none⟩) (Nat.le_succ _) _).setCell (p := ⟨w.heap.size + 1, 2, none⟩) (Nat.le_succ _) _).setCell (p := ⟨w.heap.size + 1 + 1, 0, none⟩) (by show _ ≤ w.heap.size + 1 + 1; omega) _
  · have hq : (nm == called) = false := by simp [hnm]
    rw [hq]
    gi_wp2
    refine ⟨hKN, hBQ, ⟨⟨⟨?_, c0'⟩, c1'⟩, c2'⟩, hBN⟩
    intro x hx
    rcases List.mem_append.1 hx with h | h
    · exact hp x h
    · rw [List.mem_singleton.1 h]
      exact hnm
 case done =>
  rintro D xs W hD rfl ⟨⟨⟨⟨hp, c0⟩, c1⟩, c2⟩, hB1⟩ hK
  have r0 := zD (i := 0) c1 rfl
  have r1 := zD (i := 1) c1 rfl
  have r2 := zD (i := 2) c1 rfl
  have q0 := zD (i := 0) c2 rfl
  have s0 := zI (i := 0) c1
  have s1 := zI (i := 1) c1
  have s2 := zI (i := 2) c1
  have p0 := zI (i := 0) c2
  gi_wp2
  have e1 := (((c1.set 0 (.string ⟨#[]⟩)).set 1 (.int .i64 0)).set 2 (.slice none 0 0)).other (B' := w.heap.size + 1 + 1) (by omega) 0 (.bool false)
  have e2 := (((c2.other (B' := w.heap.size + 1) (by omega) 0 (.string ⟨#[]⟩)).other (B' := w.heap.size + 1) (by omega) 1 (.int .i64 0)).other (B' := w.heap.size + 1) (by omega) 2 (.slice none 0 0)).set 0 (.bool false)
  have hb := (((hB1.setCell (p := ⟨w.heap.size + 1, 0, none⟩) (Nat.le_succ _) (.string ⟨#[]⟩)).setCell (p := ⟨w.heap.size + 1, 1, none⟩) (Nat.le_succ _) (.int .i64 0)).setCell (p := ⟨w.heap.size + 1, 2, none⟩) (Nat.le_succ _) (.slice none 0 0)).setCell (p := ⟨w.heap.size + 1 + 1, 0, none⟩) (by show _ ≤ w.heap.size + 1 + 1; omega) (.bool false)
  have hK4 := (((KeepsOthers.setCell W ⟨w.heap.size + 1, 0, none⟩ (.string ⟨#[]⟩)).trans (KeepsOthers.setCell _ ⟨w.heap.size + 1, 1, none⟩ (.int .i64 0))).trans (KeepsOthers.setCell _ ⟨w.heap.size + 1, 2, none⟩ (.slice none 0 0))).trans (KeepsOthers.setCell _ ⟨w.heap.size + 1 + 1, 0, none⟩ (.bool false)) |>.same D _ hK rfl
  generalize (((W.setCell ⟨w.heap.size + 1, 0, none⟩ (.string ⟨#[]⟩)).setCell ⟨w.heap.size + 1, 1, none⟩ (.int .i64 0)).setCell ⟨w.heap.size + 1, 2, none⟩ (.slice none 0 0)).setCell ⟨w.heap.size + 1 + 1, 0, none⟩ (.bool false) = W4 at *
  refine ⟨by simp, .inl ⟨_, _, rfl, run_takeDeferred hK4, ?_⟩⟩
  have g1 := (World.putObj_heap_other (w := W4) (o := .deferred none) (show w.heap.size + 1 ≠ D by omega)).trans e1
  have g2 := (World.putObj_heap_other (w := W4) (o := .deferred none) (show w.heap.size + 2 ≠ D by omega)).trans e2
  have t0 := zD (i := 0) g1 rfl
  have t1 := zD (i := 1) g1 rfl
  have t2 := zD (i := 2) g1 rfl
  have t3 := zD (i := 0) g2 rfl
  refine ⟨.tuple #[.agg #[.string ⟨#[]⟩, .int .i64 0, .slice none 0 0], .bool false], by simp [results, Tryz.results91, go_sem, t0, t1, t2, t3], ?_, ?_⟩
  · exact .inl ⟨rfl, fun j hj => hp _ (bkd_mem hj (by omega))⟩
  · exact hB0.trans (hb.trans (belowK_b (w := w) (Nat.le_refl _) W4 D _ _ (by omega) hK4 rfl rfl))
 case stop =>
  rintro D c pre W hD ⟨k, hk, hpre⟩ ⟨⟨⟨rfl, pre', ⟨ix, nm, kd, ka, kl, kc⟩, hpp, hp, hx, c1⟩, c2⟩, hB1⟩ hK
  have r0 := zD (i := 0) c1 rfl
  have r1 := zD (i := 1) c1 rfl
  have r2 := zD (i := 2) c1 rfl
  have q0 := zD (i := 0) c2 rfl
  gi_wp2
  refine ⟨by simp, .inl ⟨_, _, rfl, run_takeDeferred hK, ?_⟩⟩
  have g1 := (World.putObj_heap_other (w := W) (o := .deferred none) (show w.heap.size + 1 ≠ D by omega)).trans c1
  have g2 := (World.putObj_heap_other (w := W) (o := .deferred none) (show w.heap.size + 2 ≠ D by omega)).trans c2
  have t0 := zD (i := 0) g1 rfl
  have t1 := zD (i := 1) g1 rfl
  have t2 := zD (i := 2) g1 rfl
  have t3 := zD (i := 0) g2 rfl
  refine ⟨.tuple #[.agg #[.string ⟨nm.toArray⟩, .int .i64 kd, .slice ka kl kc], .bool true], by simp [results, Tryz.results91, go_sem, t0, t1, t2, t3], ?_, ?_⟩
  · obtain ⟨j, hj, he, hall⟩ := bkd_last hk (hpre.symm.trans hpp)
    injection he with _ he
    refine .inr ⟨j, hj, by rw [← he]; exact hx, fun i h1 h2 => hp _ (hall i h1 h2), by rw [← he]⟩
  · exact hB0.trans (hB1.trans (belowK_b (w := w) (Nat.le_refl _) W D _ _ (by omega) hK rfl rfl))
