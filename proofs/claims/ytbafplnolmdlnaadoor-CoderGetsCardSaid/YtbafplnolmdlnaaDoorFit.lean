/-
Ported from the texts of layer 2: Fit.
-/
import Derived.Test.YtbafplnolmdlnaaDoorMs
import Derived.ProofKit
import Derived.DataReads
namespace Go.Proofs.YtbafplnolmdlnaaDoor
open Go.RowKit
open Go.ChangeShapes Go.WideShapes

theorem cellsK3 : Tryd.prog.cellsOf 3 = 1 := by kernel_rfl

theorem cellsK22 : Tryd.prog.cellsOf 22 = 1 := by kernel_rfl

theorem list_two {α : Type} {l : List α} (h : l.length = 2) : ∃ a b, l = [a, b] := by
  match l, h with
  | [a, b], _ => exact ⟨a, b, rfl⟩

theorem pick_list {α : Type} (P : Nat → α → Prop) : ∀ (n : Nat), (∀ i, i < n → ∃ t, P i t) → ∃ l : List α, l.length = n ∧ ∀ i t, l[i]? = some t → P i t
  | 0, _ => ⟨[], rfl, fun i t h => by simp at h⟩
  | n + 1, h => by
    obtain ⟨l, hl, hP⟩ := pick_list P n (fun i hi => h i (by omega))
    obtain ⟨t, ht⟩ := h n (by omega)
    refine ⟨l ++ [t], by simp [hl], fun i u hu => ?_⟩
    rcases Nat.lt_or_ge i l.length with hlt | hge
    · rw [List.getElem?_append_left hlt] at hu
      exact hP i u hu
    · have hi : i = n := by
        have := (List.getElem?_eq_some_iff.1 hu).1
        simp at this
        omega
      subst hi
      rw [List.getElem?_append_right (by omega)] at hu
      simp [hl] at hu
      subst hu
      exact ht

theorem spot_none {w : World} {a : Addr} {v : Value} (h : w.cell? a = some v) : a = ⟨a.block, a.off, none⟩ := by
  cases a with
  | mk b o s =>
    cases s with
    | none => rfl
    | some s =>
      unfold World.cell? at h
      split at h <;> simp at h

theorem add_two0 (b o k : Nat) : ((⟨b, o, none⟩ : Addr).add k).add 0 = ⟨b, o + k, none⟩ := by
  simp only [Addr.add]
  by_cases hk : k = 0 <;> simp [hk]

theorem add_two1 (b o k : Nat) : ((⟨b, o, none⟩ : Addr).add k).add 1 = ⟨b, o + k + 1, none⟩ := by
  simp only [Addr.add]
  by_cases hk : k = 0 <;> simp [hk]

theorem cellsR24 : Tryd.prog.cellsOf 24 = 2 := by kernel_rfl
set_option maxRecDepth 100000 in
/-- What is read as a type is one. -/
theorem ty_open {H : Type} {enc : TypeId × Value → H} {w : World} {base : Nat} {sp : Nat → Bool} {held : Bool} : ∀ (fuel : Nat) (cs : List Value) (x : DataW H × List MemPlace), DataW.trod enc Tryd.prog w base sp held fuel 24 cs = some x →
    ∃ t, TyAt w (fun _ => True) fuel (.agg cs.toArray) t
  | 0, cs, x, h => by simp [DataW.trod] at h
  | fuel + 1, cs, x, h => by
    obtain ⟨xs, n, hn, hx, hl, hxl, hf⟩ := DataW.trod_struct Tryd.underlying24 h
    obtain rfl : n = fuel := by omega
    rw [cellsR24] at hl
    obtain ⟨c0, c1, rfl⟩ := list_two hl
    obtain ⟨x0, x1, rfl⟩ := list_two hxl
    have f0 : DataW.trod enc Tryd.prog w base sp held n 3 (([c0, c1].drop 0).take (Tryd.prog.cellsOf 3)) = some x0 := hf 0 _ rfl
    have f1 : DataW.trod enc Tryd.prog w base sp held n 22 (([c0, c1].drop 1).take (Tryd.prog.cellsOf 22)) = some x1 := hf 1 _ rfl
    rw [cellsK3] at f0
    rw [cellsK22] at f1
    obtain ⟨k, e0, _, _⟩ := DataW.trod_int Tryd.underlying3 (show DataW.trod enc Tryd.prog w base sp held n 3 [c0] = some x0 from f0)
    simp only [List.cons.injEq, and_true] at e0
    subst e0
    rcases DataW.trod_slice Tryd.underlying22 (show DataW.trod enc Tryd.prog w base sp held n 22 [c1] = some x1 from f1) with ⟨e1, _⟩ | ⟨a, len, cap, elems, rest, n', hn', e1, _, hb, hlc, _, hel, hcell, _⟩
    · simp only [List.cons.injEq, and_true] at e1
      subst e1
      exact ⟨.mk k [], none, 0, rfl, Nat.le_refl _, fun hl => absurd hl (by simp [Ty.args])⟩
    · simp only [List.cons.injEq, and_true] at e1
      subst e1
      rw [cellsR24] at hcell
      have key : ∀ i, i < len → ∃ t, ∃ u0 u1, w.cell? ((a.add (i * 2)).add 0) = some u0 ∧ w.cell? ((a.add (i * 2)).add 1) = some u1 ∧ TyAt w (fun _ => True) n' (.agg #[u0, u1]) t := fun i hi => by
        have h := hcell i hi
        rw [List.getElem?_eq_getElem (by omega)] at h
        obtain ⟨cs', hc, ht⟩ := Option.bind_eq_some_iff.1 h
        obtain ⟨_, hcl, hat⟩ := World.cells?_some hc
        obtain ⟨u0, u1, rfl⟩ := list_two hcl
        obtain ⟨t, hT⟩ := ty_open n' _ _ ht
        exact ⟨t, u0, u1, hat 0 (by omega), hat 1 (by omega), hT⟩
      obtain ⟨l, hll, hP⟩ := pick_list _ len key
      refine ⟨.mk k l, some a, cap, ?_, by show l.length ≤ cap; omega, fun hpos => ?_⟩
      · show Value.agg #[.int .i64 k, .slice (some a) len cap] = Value.agg #[.int .i64 k, .slice (some a) l.length cap]
        rw [hll]
      · have hp : 0 < len := by have : 0 < l.length := hpos; omega
        obtain ⟨_, u0, _, h0, _⟩ := key 0 hp
        have ha := spot_none h0
        have ha' : (a.add (0 * 2)).add 0 = a := by simp [Addr.add]
        rw [ha'] at ha
        refine ⟨a.block, a.off, by rw [← ha], trivial, fun j t hj => ?_⟩
        have hj' : l[j]? = some t := hj
        obtain ⟨u0, u1, h0, h1, hT⟩ := hP j t hj'
        rw [ha] at h0 h1
        refine ⟨u0, u1, ?_, ?_, TyAt.more n' n _ _ (by omega) hT⟩
        · rw [add_two0] at h0; exact h0
        · rw [add_two1] at h1; exact h1

/-- No node has more than 20000 Args; at most so deep. -/
def Nar : Nat → Ty → Prop
  | 0, _ => False
  | d + 1, t => t.args.length ≤ 20000 ∧ ∀ a ∈ t.args, Nar d a

/-- What small answers with: the count goes down; where it says true, the type may be gone through. -/
def SmOut (dep : Nat) (t : Ty) (l : Int) (L : Nat) (e : Ending) (w' : World) : Prop :=
  ∃ (b : Bool) (l' : Int), e = .returned (.bool b) ∧ w'.heap[L]? = some (.cells #[.int .i64 l'] 3 (0, 0)) ∧ l' < l ∧ -1 ≤ l' ∧ (b = true → 0 ≤ l' ∧ Nar dep t)

theorem cell1_0 {w : World} {g : Nat} {a : Value} {t : TypeId} (h : w.heap[g]? = some (.cells #[a] t (0, 0))) : w.cell? ⟨g, 0, none⟩ = some a := by simp [World.cell?, h]

theorem one_stored {w : World} {g : Nat} {a : Value} {t : TypeId} (h : w.heap[g]? = some (.cells #[a] t (0, 0))) (c : Value) : (w.setCell ⟨g, 0, none⟩ c).heap[g]? = some (.cells #[c] t (0, 0)) := by
  simp [World.setCell, Array.getElem?_modify, h]

theorem TyAt.only {w w' : World} {L d : Nat} {S : Nat → Prop} {v : Value} {t : Ty} (h : TyAt w S d v t) (hS : ∀ b, S b → b ≠ L) (ho : Only L w w') : TyAt w' S d v t :=
  h.move fun b hSb hl => ⟨hSb, fun _ => World.cell?_of_block (ho.block b hl (by simpa using hS b hSb))⟩

theorem only_alloc' {R : Nat} {a w : World} (h : Only R a w) (o : Obj) : Only R a (w.alloc o) := h.trans (Only.of_below ((Below.refl _ _).alloc (Nat.le_refl _) _))

set_option maxRecDepth 100000 in
set_option maxHeartbeats 1000000 in
theorem small_any : ∀ (dep d : Nat) (S : Nat → Prop) (L : Nat) (v : Value) (t : Ty) (l : Int) (w : World), dep ≤ 30 → TyAt w S d v t → (∀ b, S b → b ≠ L) → w.heap[L]? = some (.cells #[.int .i64 l] 3 (0, 0)) → 0 ≤ l → l ≤ 20000 →
    Calls Tryd.prog 15 #[v, .pointer (some ⟨L, 0, none⟩), .int .i64 (dep : Int)] w fun e w' => SmOut dep t l L e w' ∧ Only L w w'
  | dep, 0, S, L, v, t, l, w, _, hT, _, _, _, _ => hT.elim
  | dep, d + 1, S, L, v, t, l, w, hdep, hT, hS, hL, hl0, hl1 => by
    have HT := Lib.hid hT
    have HS := Lib.hid hS
    have IH := fun (dep : Nat) => small_any dep d
    have HIH := Lib.hid IH
    obtain ⟨A, c, rfl, hlc, hA⟩ := hT
    have HA := Lib.hid hA
    have hLl := cell_lt hL
    have c0 := cell1_0 hL
    have f0 := cell3_f hL 0
    clear hA hS IH
    by_cases hlz : l = 0
    · subst hlz
      go_enter Tryd.func15, Tryd.ntmps15
      go_wp2_with (fail)
      go_ret
      exact ⟨⟨false, -1, rfl, (Below.heap_alloc _ _ _ (by simpa [World.setCell] using hLl)).trans (one_stored hL _), by omega, by omega, by simp⟩, only_alloc' (Only.set_ L 0 w _) _⟩
    · obtain ⟨m, rfl⟩ : ∃ m, l = m + 1 := ⟨l - 1, by omega⟩
      have hm0 : 0 ≤ m := by omega
      have hmd : decide (m < 0) = false := by simp; omega
      by_cases hdz : dep = 0
      · subst hdz
        go_enter Tryd.func15, Tryd.ntmps15
        go_wp2_with (fail)
        go_ret
        exact ⟨⟨false, m, rfl, (Below.heap_alloc _ _ _ (by simpa [World.setCell] using hLl)).trans (one_stored hL _), by omega, by omega, by simp⟩, only_alloc' (Only.set_ L 0 w _) _⟩
      · obtain ⟨dp, rfl⟩ : ∃ dp, dep = dp + 1 := ⟨dep - 1, by omega⟩
        rw [show ((dp + 1 : Nat) : Int) = (dp : Int) + 1 by omega]
        have hd0 : (((dp : Int) + 1) == 0) = false := by simp; omega
        go_enter Tryd.func15, Tryd.ntmps15
        go_wp2_with (fail)
        go_loopw [25] (fun i wr => ∃ (j : Nat) (l' : Int), i = .int .i64 j ∧ j ≤ t.args.length ∧ wr.heap[L]? = some (.cells #[.int .i64 l'] 3 (0, 0)) ∧ 0 ≤ l' ∧ l' + j ≤ m ∧ Only L w wr ∧ Hid (∀ a ∈ t.args.take j, Nar dp a)) (fun i _ => 30000 - (intOf i).toNat)
        case atStart => exact ⟨0, m, rfl, by omega, (Below.heap_alloc _ _ _ (by simpa [World.setCell] using hLl)).trans (one_stored hL _), hm0, by omega, only_alloc' (Only.set_ L 0 w _) _, fun a ha => by simp at ha⟩
        case round =>
          obtain ⟨j, l', rfl, hj, hLr, hl'0, hl'j, hor, HN⟩ := hrel
          by_cases hlt : j < t.args.length
          · obtain ⟨b, o, rfl, hSb, hcells⟩ := HA.out (by omega)
            obtain ⟨u0, u1, h0, h1, h2⟩ := hcells j _ (List.getElem?_eq_getElem hlt)
            have hbl := World.block_lt_of_cell? w _ h0
            have hbne := HS.out b hSb
            obtain ⟨A', c', he'⟩ := h2.form
            injection he' with he'
            obtain ⟨rfl, rfl⟩ : u0 = .int .i64 (t.args[j]).kind ∧ u1 = .slice A' (t.args[j]).args.length c' := by
              have := congrArg Array.toList he'
              simpa using this
            have hbk : wr.heap[b]? = w.heap[b]? := hor.block b hbl (by simpa using hbne)
            have k0 := (World.cell?_of_block (a := ⟨b, o + j * 2, none⟩) hbk).trans h0
            have k1 := (World.cell?_of_block (a := ⟨b, o + j * 2 + 1, none⟩) hbk).trans h1
            have hts : t.args.take (j + 1) = t.args.take j ++ [t.args[j]] := by rw [List.take_add_one, List.getElem?_eq_getElem hlt]; rfl
            have HTS := Lib.hid hts
            generalize t.args[j] = a at *
            have H2 := Lib.hid (h2.only HS.out hor)
            clear h0 h1 h2 hts hcells he' hbk
            go_wp2_with (fail)
            refine (HIH.out dp S L _ a l' _ (by omega) (H2.out.below ((Below.refl _ wr).alloc (Nat.le_refl _) _)) HS.out ((Below.heap_alloc wr _ L (cell_lt hLr)).trans hLr) hl'0 (by omega)).mono ?_
            rintro e w3 ⟨⟨bb, l2, rfl, hL3, h21, h22, h23⟩, ho3⟩
            have ho3' := (only_alloc' hor _).trans ho3
            cases bb with
            | false =>
              go_wp2
              go_ret
              exact ⟨⟨false, l2, rfl, hL3, by omega, by omega, by simp⟩, ho3'⟩
            | true =>
              obtain ⟨h24, h25⟩ := h23 rfl
              go_wp2
              go_roundw
              case rel => exact ⟨j + 1, l2, by go_num, by omega, hL3, h24, by omega, ho3', by
                show ∀ a ∈ t.args.take (j + 1), Nar dp a
                rw [HTS.out]
                intro x hx
                rcases List.mem_append.1 hx with hx | hx
                · exact HN.out x hx
                · simp at hx; subst hx; exact h25⟩
              case measure => simp [intOf]; omega
          · obtain rfl : j = t.args.length := by omega
            have hN : ∀ a ∈ t.args, Nar dp a := by have := HN.out; rwa [List.take_length] at this
            go_wp2
            go_ret
            exact ⟨⟨true, l', rfl, hLr, by omega, by omega, fun _ => ⟨hl'0, by omega, hN⟩⟩, hor⟩

/-- The cells of an Arg. -/
theorem arg_cells {w : World} {S : Nat → Prop} {d b o j : Nat} {l : List Ty} (hc : ∀ (j : Nat) (a : Ty), l[j]? = some a → ∃ u0 u1, w.cell? ⟨b, o + j * 2, none⟩ = some u0 ∧ w.cell? ⟨b, o + j * 2 + 1, none⟩ = some u1 ∧ TyAt w S d (.agg #[u0, u1]) a) (h : j < l.length) :
    ∃ A' c', w.cell? ⟨b, o + j * 2, none⟩ = some (.int .i64 (l[j]).kind) ∧ w.cell? ⟨b, o + j * 2 + 1, none⟩ = some (.slice A' (l[j]).args.length c') ∧ TyAt w S d (.agg #[.int .i64 (l[j]).kind, .slice A' (l[j]).args.length c']) (l[j]) ∧ b < w.heap.size := by
  obtain ⟨u0, u1, h0, h1, h2⟩ := hc j _ (List.getElem?_eq_getElem h)
  have hbl := World.block_lt_of_cell? w _ h0
  obtain ⟨A', c', he'⟩ := h2.form
  injection he' with he'
  obtain ⟨rfl, rfl⟩ : u0 = .int .i64 (l[j]).kind ∧ u1 = .slice A' (l[j]).args.length c' := by
    have := congrArg Array.toList he'
    simpa using this
  exact ⟨A', c', h0, h1, h2, hbl⟩

/-- A list of types lies there. -/
def ArgsAt (w : World) (S : Nat → Prop) (d : Nat) (A : Option Addr) (l : List Ty) : Prop :=
  0 < l.length → ∃ b o, A = some ⟨b, o, none⟩ ∧ S b ∧ ∀ (j : Nat) (a : Ty), l[j]? = some a → ∃ u0 u1, w.cell? ⟨b, o + j * 2, none⟩ = some u0 ∧ w.cell? ⟨b, o + j * 2 + 1, none⟩ = some u1 ∧ TyAt w S d (.agg #[u0, u1]) a
end Go.Proofs.YtbafplnolmdlnaaDoor
