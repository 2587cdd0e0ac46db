/-
Stage 11: places as texts; lists of texts joined. Stage 11: the reader of a line's parts: next, need, numbers.
-/
import Derived.Test.YtllnamhgnbdkmaaGreatDoorJj
import Derived.Lib.ItoaLen
import Derived.Lib.AppendIntMem
import Derived.Test.YtllnamhgnbdkmaaGreatDoorRc3
import Derived.Test.YtllnamhgnbdkmaaGreatDoorJf
import Derived.Lib.AtoiErrMem
set_option linter.unusedVariables false
set_option linter.unusedSimpArgs false
namespace Go.Proofs.YtllnamhgnbdkmaaGreatDoor
open Go.RowKit Go.Shelf Go.Sort
def StrsAt (w : World) (S : Nat → Prop) (v : Value) (l : List (List UInt8)) : Prop :=
  ∃ A c, v = .slice A l.length c ∧ l.length ≤ c ∧ (0 < l.length → ∃ b o, A = some ⟨b, o, none⟩ ∧ S b ∧ b < w.heap.size ∧ ∀ (j : Nat) (x : List UInt8), l[j]? = some x → w.cell? ⟨b, o + j, none⟩ = some (.string ⟨x.toArray⟩))
theorem StrsAt.move {w w' : World} {S S' : Nat → Prop} {v : Value} {l : List (List UInt8)} (h : StrsAt w S v l) (hk : ∀ b, S b → b < w.heap.size → S' b ∧ b < w'.heap.size ∧ ∀ o, w'.cell? ⟨b, o, none⟩ = w.cell? ⟨b, o, none⟩) : StrsAt w' S' v l := by
  obtain ⟨A, c, e, hl, h⟩ := h
  refine ⟨A, c, e, hl, fun h0 => ?_⟩
  obtain ⟨b, o, e2, h1, h2, h3⟩ := h h0
  obtain ⟨g1, g2, g3⟩ := hk b h1 h2
  exact ⟨b, o, e2, g1, g2, fun j x hx => (g3 _).trans (h3 j x hx)⟩
theorem StrsAt.below {w w' : World} {S : Nat → Prop} {v : Value} {l : List (List UInt8)} (h : StrsAt w S v l) (hb : Below w.heap.size w w') : StrsAt w' S v l :=
  h.move fun b h1 h2 => ⟨h1, by have := hb.size; omega, fun o => World.cell?_of_block (hb.block b h2)⟩
def encT (x : List UInt8) : Value := .string ⟨x.toArray⟩
theorem StrsAt.of_own {w : World} {B : Nat} {v : Value} {l : List (List UInt8)} (h : w.ownsRow B 9 1 v l.length (l.map encT)) : StrsAt w (fun b => B ≤ b) v l := by
  rcases h.2 with ⟨rfl, h0⟩ | ⟨g, cap, cur, rfl, hb, hg, hn, hc⟩
  · exact ⟨none, 0, by rw [h0], by omega, fun h1 => by omega⟩
  · refine ⟨some ⟨g, 0, none⟩, cap, rfl, by omega, fun _ => ⟨g, 0, rfl, hb, cell_lt hg, fun j x hx => ?_⟩⟩
    have hj := (List.getElem?_eq_some_iff.1 hx).1
    rw [Nat.zero_add, h.cellAt j (by omega), List.getElem?_map, hx]
    rfl
theorem StrsAt.built {w : World} {B n : Nat} {l : List (List UInt8)} {t : TypeId} (h : w.heap[B]? = some (.cells (l.map encT).toArray t (0, 0))) (hn : l.length = n) : StrsAt w (fun b => B ≤ b) (.slice (some ⟨B, 0, none⟩) n n) l := by
  subst hn
  refine ⟨some ⟨B, 0, none⟩, l.length, rfl, Nat.le_refl _, fun _ => ⟨B, 0, rfl, Nat.le_refl _, cell_lt h, fun j x hx => ?_⟩⟩
  rw [Nat.zero_add]
  simp [World.cell?, h, hx, encT]
theorem join_any (S : Nat → Prop) (v : Value) (l : List (List UInt8)) (sep : List UInt8) (w : World) (h : StrsAt w S v l) (hN : l.length ≤ 1000000) (hlen : (Lib.join l sep).length ≤ 1000000000) :
    Calls Tryz.prog 75 #[v, .string ⟨sep.toArray⟩] w fun e w' => e = .returned (.string ⟨(Lib.join l sep).toArray⟩) ∧ Below w.heap.size w w' := by
  obtain ⟨A, c, rfl, hc, h⟩ := h
  by_cases h0 : l.length = 0
  · obtain rfl : l = [] := List.eq_nil_of_length_eq_zero h0
    refine (Tryz.strings_Join_none A c ⟨sep.toArray⟩ w).mono fun e w' ⟨he, hw⟩ => ⟨he, ?_⟩
    rw [hw]
    exact Below.refl _ _
  · obtain ⟨b, o, rfl, _, hb, hj⟩ := h (by omega)
    have hm : (l.map fun x : List UInt8 => (⟨x.toArray⟩ : ByteArray)).map (·.data.toList) = l := by
      rw [List.map_map]
      exact List.map_id' l
    have hz := Tryz.strings_Join b o c (l.map fun x => ⟨x.toArray⟩) ⟨sep.toArray⟩ w (fun j x hx => by
      rw [List.getElem?_map] at hx
      cases hl : l[j]? with
      | none => rw [hl] at hx; cases hx
      | some y =>
        rw [hl] at hx
        obtain rfl := Option.some.inj hx
        exact hj j y hl) hb (by simp; omega) (by simpa using hc) (by rw [hm]; show (Lib.join l sep).length ≤ _; omega)
    rw [hm] at hz
    simpa using hz
theorem itoa_b (n : Int) (h0 : -9223372036854775808 ≤ n) (h1 : n ≤ 9223372036854775807) (w : World) (hT : Tb w) : Calls Tryz.prog 101 #[.int .i64 n] w fun e w' => e = .returned (.string ⟨(Lib.itoa n).toArray⟩) ∧ Below w.heap.size w w' := by
  refine (Tryz.strconv_Itoa n h0 h1 w hT).mono ?_
  rintro e w' ⟨he, k, os, hw⟩
  refine ⟨he, ?_⟩
  rw [hw]
  exact Lib.below_grow w.heap.size w (Nat.le_refl _) k os
def placeT (l : List Int) : List UInt8 := if l.length = 0 then [45] else Lib.join (l.map Lib.itoa) [44]
theorem join_len (sep : List UInt8) (m : Nat) : ∀ (l : List (List UInt8)), (∀ x ∈ l, x.length ≤ m) → (Lib.join l sep).length ≤ l.length * (m + sep.length)
  | [], _ => by simp [Lib.join]
  | [x], h => by simp [Lib.join]; have := h x (by simp); omega
  | x :: y :: l, h => by
    have := join_len sep m (y :: l) (fun z hz => h z (by simp [hz]))
    have hx := h x (by simp)
    have e : Lib.join (x :: y :: l) sep = x ++ sep ++ Lib.join (y :: l) sep := by simp [Lib.join, List.intercalate, List.intersperse]
    rw [e]
    simp only [List.length_append, List.length_cons] at this ⊢
    rw [Nat.add_mul]
    omega
theorem placeT_len {l : List Int} (hl : l.length ≤ 1000) (h : ∀ x ∈ l, -9223372036854775808 ≤ x ∧ x ≤ 9223372036854775807) : (placeT l).length ≤ 30000 := by
  unfold placeT
  split
  · simp
  · have := join_len [44] 21 (l.map Lib.itoa) (fun x hx => by
      obtain ⟨y, hy, rfl⟩ := List.mem_map.1 hx
      exact Lib.itoa_length_le y (h y hy).1 (h y hy).2)
    simp at this ⊢
    omega
end Go.Proofs.YtllnamhgnbdkmaaGreatDoor
namespace Go.Proofs.YtllnamhgnbdkmaaGreatDoor
open Go.RowKit Go.Shelf
def RdL (w : World) (R P : Nat) (l : List (List UInt8)) (f : Bool) : Prop := P ≠ R ∧ ∃ v, w.heap[R]? = some (.cells #[v, .bool f] 137 (0, 0)) ∧ StrsAt w (fun b => b = P) v l
theorem RdL.lt {w : World} {R P : Nat} {l : List (List UInt8)} {f : Bool} (h : RdL w R P l f) : R < w.heap.size := by
  obtain ⟨_, v, h, _⟩ := h
  exact cell_lt h
theorem RdL.move {w w' : World} {R P : Nat} {l : List (List UInt8)} {f : Bool} (h : RdL w R P l f) (hk : ∀ b, b = R ∨ b = P → b < w.heap.size → w'.heap[b]? = w.heap[b]?) : RdL w' R P l f := by
  have hl := h.lt
  obtain ⟨h0, v, h1, h2⟩ := h
  refine ⟨h0, v, (hk R (Or.inl rfl) hl).trans h1, h2.move fun b hb hlt => ⟨hb, ?_, fun o => World.cell?_of_block (hk b (Or.inr hb) hlt)⟩⟩
  have h3 := hk b (Or.inr hb) hlt
  rw [Array.getElem?_eq_getElem hlt] at h3
  exact (Array.getElem?_eq_some_iff.1 h3).1
theorem RdL.below {w w' : World} {R P : Nat} {l : List (List UInt8)} {f : Bool} (h : RdL w R P l f) (hb : Below w.heap.size w w') : RdL w' R P l f := h.move fun b _ hl => hb.block b hl
theorem RdL.far {w : World} {R P B i : Nat} {l : List (List UInt8)} {f : Bool} (h : RdL w R P l f) (hR : R ≠ B) (hP : P ≠ B) (u : Value) : RdL (w.setCell ⟨B, i, none⟩ u) R P l f :=
  h.move fun b hb _ => Below.heap_setCell w ⟨B, i, none⟩ u b (by rcases hb with rfl | rfl <;> assumption)
theorem only_bl {R : Nat} {a b c : World} (h : Only R a b) (hb : Below b.heap.size b c) : Only R a c := h.trans (Only.of_below hb)
set_option maxRecDepth 100000 in
theorem next_any (w : World) (R P : Nat) (p : List UInt8) (l : List (List UInt8)) (f : Bool) (h : RdL w R P (p :: l) f) :
    Calls Tryz.prog 111 #[.pointer (some ⟨R, 0, none⟩)] w fun e w' => e = .returned (.string ⟨p.toArray⟩) ∧ RdL w' R P l f ∧ Only R w w' := by
  obtain ⟨hPR, v, h1, A, c, rfl, hc, h2⟩ := h
  obtain ⟨b, o, rfl, rfl, hb, hj⟩ := h2 (by simp)
  have hbR := hPR
  have h0 := hj 0 p rfl
  have r0 := cellN (i := 0) h1 rfl
  have r1 := cellN (i := 1) h1 rfl
  have f0 := frozN (i := 0) h1
  have rl := cell_lt h1
  rw [Nat.add_zero] at h0
  have hln : (p :: l).length = l.length + 1 := rfl
  rw [hln] at r0 h1
  have hc1 : 1 ≤ c := by rw [hln] at hc; omega
  have hcl : l.length + 1 ≤ c := by rw [hln] at hc; exact hc
  have hci : (1 : Int) ≤ (c : Int) := by omega
  have hli : (1 : Int) ≤ (l.length : Int) + 1 := by omega
  have HJ := Lib.hid hj
  have H1 := Lib.hid h1
  clear h2 hj hc hln h1
  go_enter Tryz.func111, Tryz.ntmps111
  go_wp2_with (fail)
  · go_ret
    refine ⟨rfl, ⟨hPR, .slice (some ⟨b, o, none⟩) l.length 0, by simp [World.setCell, Array.getElem?_modify, H1.out], _, _, rfl, by omega, fun h0 => by omega⟩, Only.set_ R 0 w _⟩
  · go_ret
    refine ⟨rfl, ⟨hPR, .slice (some ⟨b, o + 1, none⟩) l.length (c - 1), by simp [World.setCell, Array.getElem?_modify, H1.out], _, _, rfl, by omega, fun h0 => ⟨b, o + 1, rfl, rfl, by simpa [World.setCell] using hb, fun j x hx => ?_⟩⟩, Only.set_ R 0 w _⟩
    rw [World.cell?_of_block (Below.heap_setCell w ⟨R, 0, none⟩ _ b hbR)]
    have := HJ.out (j + 1) x hx
    rwa [show o + 1 + j = o + (j + 1) by omega]
set_option maxRecDepth 100000 in
theorem need_any (w : World) (R P : Nat) (l : List (List UInt8)) (f b : Bool) (h : RdL w R P l f) :
    Calls Tryz.prog 130 #[.pointer (some ⟨R, 0, none⟩), .bool b] w fun e w' => e = .returned (.tuple #[]) ∧ RdL w' R P l (f || !b) ∧ Only R w w' := by
  obtain ⟨hPR, v, h1, h2⟩ := h
  have r0 := cellN (i := 0) h1 rfl
  have r1 := cellN (i := 1) h1 rfl
  have f1 := frozN (i := 1) h1
  have rl := cell_lt h1
  have H1 := Lib.hid h1
  have H2 := Lib.hid h2
  clear h1 h2
  cases b with
  | true =>
    go_enter Tryz.func130, Tryz.ntmps130
    go_wp2_with (fail)
    refine ⟨rfl, .tuple #[], by simp [results, Tryz.results130, go_sem], ?_⟩
    exact ⟨rfl, ⟨hPR, v, by simpa using H1.out, H2.out⟩, Only.refl _ _⟩
  | false =>
    go_enter Tryz.func130, Tryz.ntmps130
    go_wp2_with (fail)
    refine ⟨rfl, .tuple #[], by simp [results, Tryz.results130, go_sem], ?_⟩
    refine ⟨rfl, ⟨hPR, v, by simp [World.setCell, Array.getElem?_modify, H1.out], H2.out.move fun b hb hl => ⟨hb, by simpa [World.setCell] using hl, fun o => World.cell?_of_block (Below.heap_setCell w ⟨R, 1, none⟩ _ b (fun e => hPR (hb.symm.trans e)))⟩⟩, Only.set_ R 1 w _⟩
def goodN (s : List UInt8) (most : Int) : Option Int := match Lib.atoiAll s with
  | .ok v => if (0 ≤ v ∧ v ≤ most) ∧ Lib.itoa v = s then some v else none
  | _ => none
end Go.Proofs.YtllnamhgnbdkmaaGreatDoor
set_option linter.unusedVariables false
set_option linter.unusedSimpArgs false
namespace Go.Proofs.YtllnamhgnbdkmaaGreatDoor
open Go.RowKit Go.Shelf
def AtOut (e : Ending) : Lib.NumEnd Int → Prop
  | .ok v => e = .returned (.tuple #[.int .i64 v, .nilIface])
  | _ => ∃ n t p, e = .returned (.tuple #[.int .i64 n, .iface t (.pointer (some p))])
theorem atoi_any (s : List UInt8) (w : World) (hs : s.length ≤ 1000000) (hG : Gk w) :
    Calls Tryz.prog 144 #[.string ⟨s.toArray⟩] w fun e w' => AtOut e (Lib.atoiAll s) ∧ Below w.heap.size w w' := by
  have hsz : (ByteArray.mk s.toArray).size = s.length := by simp [ByteArray.size]
  cases h : Lib.atoiAll s with
  | ok v =>
    refine (Tryz.strconv_Atoi_ok ⟨s.toArray⟩ (by omega) v h w).mono ?_
    rintro e w' ⟨he, hw⟩
    refine ⟨he, ?_⟩
    rcases hw with rfl | ⟨t, rfl⟩
    · exact Below.refl _ _
    · exact Lib.bytesWorld_below _ _ _
  | «syntax» =>
    obtain ⟨ev, h1, h2⟩ := hG.es
    refine (Tryz.strconv_Atoi_syntax ⟨s.toArray⟩ (by omega) h ev w h1 h2).mono ?_
    rintro e w' ⟨N, he, _, _, hb⟩
    exact ⟨⟨_, _, _, he⟩, hb⟩
  | range =>
    obtain ⟨ev, h1, h2⟩ := hG.er
    refine (Tryz.strconv_Atoi_range ⟨s.toArray⟩ (by omega) h ev w h1 h2).mono ?_
    rintro e w' ⟨N, he, _, _, hb⟩
    exact ⟨⟨_, _, _, he⟩, hb⟩
set_option maxRecDepth 100000 in
set_option maxHeartbeats 1000000 in
theorem numberOf_any (s : List UInt8) (most : Int) (w : World) (hs : s.length ≤ 1000000) (hm : most ≤ 9223372036854775807) (hG : Gk w) :
    Calls Tryz.prog 131 #[.string ⟨s.toArray⟩, .int .i64 most] w fun e w' => (∃ n, e = .returned (.tuple #[.int .i64 n, .bool (goodN s most).isSome]) ∧ ∀ v, goodN s most = some v → n = v) ∧ Below w.heap.size w w' := by
  have HAT := Lib.hid (atoi_any s w hs hG)
  have HG := Lib.hid hG
  clear hG
  cases h : Lib.atoiAll s with
  | ok v =>
    rw [h] at HAT
    by_cases hin : 0 ≤ v ∧ v ≤ most
    · have HW := fun (W : World) => Lib.hid (gwithin_yes v 0 most W hin.1 hin.2)
      have HIT : Hid (∀ W : World, Below w.heap.size w W → Calls Tryz.prog 101 #[.int .i64 v] W fun e w' => e = .returned (.string ⟨(Lib.itoa v).toArray⟩) ∧ Below W.heap.size W w') := Lib.hid fun W hb => itoa_b v (by omega) (by omega) W (HG.out.below hb).tb
      by_cases he : Lib.itoa v = s
      · have HGD : Hid (goodN s most = some v) := Lib.hid (by unfold goodN; rw [h]; simp only; rw [if_pos ⟨hin, he⟩])
        have heb : (Lib.itoa v == s) = true := by simp [he]
        clear hin he h
        go_enter Tryz.func131, Tryz.ntmps131
        go_wp2_with (first
          | (go_at_call 144; (with_reducible refine HAT.out.mono ?_); rintro e w1 ⟨he1, hb1⟩; (obtain rfl : e = Ending.returned (.tuple #[.int .i64 v, .nilIface]) := he1); have HB1 := Lib.hid hb1; clear hb1)
          | (go_at_call 67; (with_reducible refine (HW _).out.mono ?_); rintro e w2 ⟨rfl, rfl⟩)
          | (go_at_call 101; (with_reducible refine (HIT.out _ HB1.out).mono ?_); rintro e w3 ⟨rfl, hb3⟩; have HB3 := Lib.hid (bl_tr HB1.out hb3); clear hb3)
          | fail)
        go_ret2
        rw [HGD.out]
        exact ⟨⟨v, rfl, fun x hx => Option.some.inj hx⟩, HB3.out⟩
      · have HGD : Hid (goodN s most = none) := Lib.hid (by unfold goodN; rw [h]; simp only; rw [if_neg (fun k => he k.2)])
        have heb : (Lib.itoa v == s) = false := by simp [he]
        clear hin he h
        go_enter Tryz.func131, Tryz.ntmps131
        go_wp2_with (first
          | (go_at_call 144; (with_reducible refine HAT.out.mono ?_); rintro e w1 ⟨he1, hb1⟩; (obtain rfl : e = Ending.returned (.tuple #[.int .i64 v, .nilIface]) := he1); have HB1 := Lib.hid hb1; clear hb1)
          | (go_at_call 67; (with_reducible refine (HW _).out.mono ?_); rintro e w2 ⟨rfl, rfl⟩)
          | (go_at_call 101; (with_reducible refine (HIT.out _ HB1.out).mono ?_); rintro e w3 ⟨rfl, hb3⟩; have HB3 := Lib.hid (bl_tr HB1.out hb3); clear hb3)
          | fail)
        go_ret2
        rw [HGD.out]
        exact ⟨⟨v, rfl, fun x hx => by cases hx⟩, HB3.out⟩
    · have HW := fun (W : World) => Lib.hid (gwithin_no v 0 most W hin)
      have HGD : Hid (goodN s most = none) := Lib.hid (by unfold goodN; rw [h]; simp only; rw [if_neg (fun k => hin k.1)])
      clear hin h
      go_enter Tryz.func131, Tryz.ntmps131
      go_wp2_with (first
        | (go_at_call 144; (with_reducible refine HAT.out.mono ?_); rintro e w1 ⟨he1, hb1⟩; (obtain rfl : e = Ending.returned (.tuple #[.int .i64 v, .nilIface]) := he1); have HB1 := Lib.hid hb1; clear hb1)
        | (go_at_call 67; (with_reducible refine (HW _).out.mono ?_); rintro e w2 ⟨rfl, rfl⟩)
        | fail)
      go_ret2
      rw [HGD.out]
      exact ⟨⟨v, rfl, fun x hx => by cases hx⟩, HB1.out⟩
  | «syntax» =>
    rw [h] at HAT
    have HGD : Hid (goodN s most = none) := Lib.hid (by unfold goodN; rw [h])
    clear h
    go_enter Tryz.func131, Tryz.ntmps131
    go_wp2_with (go_at_call 144; (with_reducible refine HAT.out.mono ?_); rintro e w1 ⟨he1, hb1⟩; obtain ⟨m, te, pe, rfl⟩ : ∃ n t p, e = .returned (.tuple #[.int .i64 n, .iface t (.pointer (some p))]) := he1; have HB1 := Lib.hid hb1; clear hb1)
    go_ret2
    rw [HGD.out]
    exact ⟨⟨m, rfl, fun x hx => by cases hx⟩, HB1.out⟩
  | range =>
    rw [h] at HAT
    have HGD : Hid (goodN s most = none) := Lib.hid (by unfold goodN; rw [h])
    clear h
    go_enter Tryz.func131, Tryz.ntmps131
    go_wp2_with (go_at_call 144; (with_reducible refine HAT.out.mono ?_); rintro e w1 ⟨he1, hb1⟩; obtain ⟨m, te, pe, rfl⟩ : ∃ n t p, e = .returned (.tuple #[.int .i64 n, .iface t (.pointer (some p))]) := he1; have HB1 := Lib.hid hb1; clear hb1)
    go_ret2
    rw [HGD.out]
    exact ⟨⟨m, rfl, fun x hx => by cases hx⟩, HB1.out⟩
end Go.Proofs.YtllnamhgnbdkmaaGreatDoor
namespace Go.Proofs.YtllnamhgnbdkmaaGreatDoor.Knd
open Go.RowKit
set_option maxRecDepth 100000 in
set_option maxHeartbeats 1000000 in
theorem parse_any (s : ByteArray) (w : World) (hs : s.size ≤ 1000000) (hG : Glob w) :
    Calls Tryz.prog 129 #[.string s] w fun e w' => PaOut w w' e (parseT s.data.toList) ∧ Below w.heap.size w w' := by
  have hGl := hG.lt
  have hrt := readT_le 6 s.data.toList
  simp only [Array.length_toList, ByteArray.size_data] at hrt
  go_enter Tryz.func129, Tryz.ntmps129
  go_wp2_with (fail)
  refine (readType_any 6 (w.heap.size + 1) s 0 _ (by omega) (by omega) (by unfold Rdr; simpa using heap_alloc_new (w.alloc _) _) hs (by omega) ((hG.kept (Below.heap_alloc w _ 2 hG.lt)).kept (Below.heap_alloc _ _ 2 (by simp <;> omega))) (by omega)).mono ?_
  rw [List.drop_zero, Nat.zero_add]
  cases hq : readT 6 s.data.toList with
  | mk k o =>
  rw [hq] at hrt
  have hsl : s.data.toList.length = s.size := by simp
  cases o with
  | none =>
    have HP : Hid (parseT s.data.toList = (k, none)) := by show _ = _; rw [parseT, hq]
    clear hq
    rintro e w1 ⟨v, rfl, hv, hr, hon⟩
    obtain rfl : v = .agg #[.int .i64 0, .slice none 0 0] := hv
    have hc := pa_cell hon
    have hb := pa_below hon
    have f0 := cell2_0 hc
    have f1 := cell2_1 hc
    have f2 := cell3_f hc 0
    have f3 := cell3_f hc 1
    have hcz := two_stored (two_stored hc (.int .i64 0) (.slice none 0 0)) (.int .i64 0) (.slice none 0 0)
    have z0 := cell2_0 hcz
    have z1 := cell2_1 hcz
    have r0 := hr.c0
    have r1 := hr.c1
    have rl := hr.lt
    go_wp2
    go_region
    all_goals
      go_wp2
      refine bodyPost_ret (v := .tuple #[.agg #[.int .i64 0, .slice none 0 0], .int .i64 (k : Int), .int .i64 40]) (by simp [results, Tryz.results129, go_sem, z0, z1]) rfl ?_
      rw [HP.out]
      refine ⟨rfl, ?_⟩
      first
        | exact (((hb.setCell (Nat.le_refl _) _).setCell (Nat.le_refl _) _).setCell (Nat.le_refl _) _).setCell (Nat.le_refl _) _
        | exact ((((hb.setCell (Nat.le_refl _) _).setCell (Nat.le_refl _) _).setCell (Nat.le_refl _) _).setCell (Nat.le_refl _) _).drew
  | some t =>
    have HP : Hid (parseT s.data.toList = if k < s.size then (k, none) else (0, some t)) := by show _ = _; rw [parseT, hq, hsl]
    clear hq
    rintro e w1 ⟨v, rfl, hv, hr, hon⟩
    obtain ⟨A, c, rfl⟩ := TyAt.form hv
    have HV := Lib.hid hv
    have hc := pa_cell hon
    have hb := pa_below hon
    have f0 := cell2_0 hc
    have f1 := cell2_1 hc
    have f2 := cell3_f hc 0
    have f3 := cell3_f hc 1
    have hcz := two_stored (two_stored hc (.int .i64 t.kind) (.slice A t.args.length c)) (.int .i64 0) (.slice none 0 0)
    have z0 := cell2_0 hcz
    have z1 := cell2_1 hcz
    have hcy := two_stored (two_stored hc (.int .i64 t.kind) (.slice A t.args.length c)) (.int .i64 t.kind) (.slice A t.args.length c)
    have y0 := cell2_0 hcy
    have y1 := cell2_1 hcy
    have r0 := hr.c0
    have r1 := hr.c1
    have rl := hr.lt
    clear hv
    by_cases hk : k < s.size
    · have HP2 : Hid (parseT s.data.toList = (k, none)) := by show _ = _; rw [HP.out, if_pos hk]
      go_wp2
      go_region
      all_goals
        go_wp2
        refine bodyPost_ret (v := .tuple #[.agg #[.int .i64 0, .slice none 0 0], .int .i64 (k : Int), .int .i64 40]) (by simp [results, Tryz.results129, go_sem, z0, z1]) rfl ?_
        rw [HP2.out]
        refine ⟨rfl, ?_⟩
        first
          | exact (((hb.setCell (Nat.le_refl _) _).setCell (Nat.le_refl _) _).setCell (Nat.le_refl _) _).setCell (Nat.le_refl _) _
          | exact ((((hb.setCell (Nat.le_refl _) _).setCell (Nat.le_refl _) _).setCell (Nat.le_refl _) _).setCell (Nat.le_refl _) _).drew
    · have HP2 : Hid (parseT s.data.toList = (0, some t)) := by show _ = _; rw [HP.out, if_neg hk]
      go_wp2
      refine bodyPost_ret (v := .tuple #[.agg #[.int .i64 t.kind, .slice A t.args.length c], .int .i64 0, .int .i64 0]) (by simp [results, Tryz.results129, go_sem, y0, y1]) rfl ?_
      rw [HP2.out]
      refine ⟨⟨_, rfl, TyAt.move (fun b hS hl => ?_) _ _ _ HV.out⟩, (((hb.setCell (Nat.le_refl _) _).setCell (Nat.le_refl _) _).setCell (Nat.le_refl _) _).setCell (Nat.le_refl _) _⟩
      have hS' : w.heap.size + 1 + 1 ≤ b := by simpa using hS
      exact ⟨by omega, fun o => World.cell?_of_block (by rw [Below.heap_setCell _ _ _ _ (by show b ≠ w.heap.size; omega), Below.heap_setCell _ _ _ _ (by show b ≠ w.heap.size; omega), Below.heap_setCell _ _ _ _ (by show b ≠ w.heap.size; omega), Below.heap_setCell _ _ _ _ (by show b ≠ w.heap.size; omega)])⟩
end Go.Proofs.YtllnamhgnbdkmaaGreatDoor.Knd
