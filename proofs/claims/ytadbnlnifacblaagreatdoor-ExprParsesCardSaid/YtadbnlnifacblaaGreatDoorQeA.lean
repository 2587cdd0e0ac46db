/-
The document's answer for package expr: what its reader answers with, against one's own reader.
-/
import Derived.Test.YtadbnlnifacblaaGreatDoorQk
import Derived.Test.YtadbnlnifacblaaGreatDoorPe
import Derived.Deep.DeepCutAuto
import Derived.Test.YtadbnlnifacblaaGreatDoorQt
import Derived.Test.YtadbnlnifacblaaGreatDoorQy
import Derived.Test.YtadbnlnifacblaaGreatDoorPn
import Derived.Test.YtadbnlnifacblaaGreatDoorFt
namespace Go.Proofs.YtadbnlnifacblaaGreatDoor
open Go.RowKit
def BlD (l : List UInt8) (e : Nat) : Prop := nmB (lkB l e) = true
def RelD {α : Type} (l : List UInt8) (d q : Nat × Option α) : Prop := d = q ∨ ∃ e x, q = (e, some x) ∧ d = (e, none) ∧ BlD l e
theorem RelD.rfl' {α : Type} {l : List UInt8} {q : Nat × Option α} : RelD l q q := .inl rfl
theorem blD_not {l : List UInt8} {e : Nat} (h : BlD l e) (b : UInt8) (hb : nmB b = false) : lkB l e ≠ b := by
  intro hh
  unfold BlD at h
  rw [hh, hb] at h
  cases h
theorem blD_skip {l : List UInt8} {e : Nat} (h : BlD l e) : skip l e = e := skip_off (blD_not h 32 (by decide))
theorem blD_mark {l : List UInt8} {e : Nat} (h : BlD l e) (b : UInt8) (hb : nmB b = false) : markR l e b = (e, none) := by
  unfold markR rdB
  rw [blD_skip h, decide_eq_false (blD_not h b hb)]
  rfl
theorem blD_parts {kp : List UInt8 → Nat × Option Ty} {f : Nat → Nat × Option Nd} {l : List UInt8} {e : Nat} (h : BlD l e) (least : Nat) (ps : List UInt8) (i : Nat) (nd : Nd) : partsR kp f l least ps i 44 e nd = (e, none) := by
  cases ps with
  | nil => rfl
  | cons p ps =>
    unfold partsR
    rw [blD_mark h 44 (by decide)]
    rfl
def contP (kp : List UInt8 → Nat × Option Ty) (f : Nat → Nat × Option Nd) (l : List UInt8) (least : Nat) (ps : List UInt8) (i : Nat) (m2 : Nat) (nd' : Nd) : Nat × Option Nd :=
  if least ≤ i + 1 then (match markR l m2 41 with
    | (m3, some _) => (m3, some nd')
    | (m3, none) => partsR kp f l least ps (i + 1) 44 m3 nd')
  else partsR kp f l least ps (i + 1) 44 m2 nd'
theorem blD_cont {kp : List UInt8 → Nat × Option Ty} {f : Nat → Nat × Option Nd} {l : List UInt8} {e : Nat} (h : BlD l e) (least : Nat) (ps : List UInt8) (i : Nat) (nd : Nd) : contP kp f l least ps i e nd = (e, none) := by
  unfold contP
  rw [blD_mark h 41 (by decide)]
  simp only [blD_parts h]
  split <;> rfl
theorem partsR_step {kp : List UInt8 → Nat × Option Ty} {f : Nat → Nat × Option Nd} {l : List UInt8} {least : Nat} {p : UInt8} {ps : List UInt8} {i : Nat} {mark : UInt8} {m : Nat} {nd : Nd} :
    partsR kp f l least (p :: ps) i mark m nd = bindP (markR l m mark) fun m1 _ => bindP (partR kp f l p m1 nd) (contP kp f l least ps i) := rfl
theorem skip_skip2 (l : List UInt8) (m : Nat) : skip l (skip l m) = skip l m := by
  suffices h : ∀ (f m : Nat), l.length - m ≤ f → skip l (skip l m) = skip l m from h (l.length - m) m (Nat.le_refl _)
  intro f
  induction f with
  | zero =>
    intro m hm
    rw [show skip l m = m from skip_off (by rw [lkB_end (by omega)]; decide)]
    exact skip_off (by rw [lkB_end (by omega)]; decide)
  | succ f ih =>
    intro m hm
    by_cases h : lkB l m = 32
    · rw [skip_on h]
      exact ih (m + 1) (by omega)
    · rw [skip_off h, skip_off h]
theorem cont_comma {kp : List UInt8 → Nat × Option Ty} {f : Nat → Nat × Option Nd} {l : List UInt8} {least i m2 : Nat} {p' : UInt8} {ps : List UInt8} {nd' : Nd} (h : lkB l (skip l m2) = 44) :
    contP kp f l least (p' :: ps) i m2 nd' = bindP (partR kp f l p' (skip l m2 + 1) nd') (contP kp f l least ps (i + 1)) := by
  have hs : skip l (skip l m2) = skip l m2 := skip_off (by rw [h]; decide)
  have m41 : markR l m2 41 = (skip l m2, none) := by unfold markR rdB; rw [h]; rfl
  have m44 : markR l m2 44 = (skip l m2 + 1, some ()) := by unfold markR rdB; rw [h]; rfl
  have m44' : markR l (skip l m2) 44 = (skip l m2 + 1, some ()) := by unfold markR rdB; rw [hs, h]; rfl
  unfold contP
  rw [m41]
  simp only [partsR_step, m44, m44']
  split <;> rfl
theorem cont_close {kp : List UInt8 → Nat × Option Ty} {f : Nat → Nat × Option Nd} {l : List UInt8} {least i m2 : Nat} {ps : List UInt8} {nd' : Nd} (h : lkB l (skip l m2) = 41) (hl : least ≤ i + 1) :
    contP kp f l least ps i m2 nd' = (skip l m2 + 1, some nd') := by
  have m41 : markR l m2 41 = (skip l m2 + 1, some ()) := by unfold markR rdB; rw [h]; rfl
  unfold contP
  rw [if_pos hl, m41]
theorem cont_other {kp : List UInt8 → Nat × Option Ty} {f : Nat → Nat × Option Nd} {l : List UInt8} {least i m2 : Nat} {ps : List UInt8} {nd' : Nd} (h1 : lkB l (skip l m2) ≠ 44 ∨ ps = []) (h2 : lkB l (skip l m2) ≠ 41 ∨ ¬ least ≤ i + 1) (h3 : ps = [] → least ≤ i + 1) :
    contP kp f l least ps i m2 nd' = (skip l m2, none) := by
  have hsk : skip l (skip l m2) = skip l m2 := skip_skip2 l m2
  unfold contP
  by_cases hl : least ≤ i + 1
  · rw [if_pos hl]
    have h41 : lkB l (skip l m2) ≠ 41 := h2.resolve_right (fun h => h hl)
    have m41 : markR l m2 41 = (skip l m2, none) := by unfold markR rdB; rw [decide_eq_false h41]; rfl
    rw [m41]
    cases ps with
    | nil => rfl
    | cons p' ps =>
      have h44 : lkB l (skip l m2) ≠ 44 := h1.resolve_right (by simp)
      have m44 : markR l (skip l m2) 44 = (skip l m2, none) := by unfold markR rdB; rw [hsk, decide_eq_false h44]; rfl
      simp only [partsR_step, m44]
      rfl
  · rw [if_neg hl]
    cases ps with
    | nil => exact absurd (h3 rfl) hl
    | cons p' ps =>
      have h44 : lkB l (skip l m2) ≠ 44 := h1.resolve_right (by simp)
      have m44 : markR l m2 44 = (skip l m2, none) := by unfold markR rdB; rw [decide_eq_false h44]; rfl
      simp only [partsR_step, m44]
      rfl
def GF (g p : List UInt8) (least : Nat) : Prop := ((g = [108] ∧ p = List.replicate 64 101 ∧ least = 1) ∨ (g ≠ [108] ∧ p = g ∧ least = g.length)) ∧
  ((g = [] ∧ p = []) ∨ (g = [100] ∧ p = [100]) ∨ (g = [116] ∧ p = [116]) ∨ (hasB p 101 = true ∧ g ≠ [] ∧ p ≠ [] ∧ g ≠ [100] ∧ g ≠ [116] ∧ ∀ q ∈ p, q = 101 ∨ q = 110))
def gfB (x : List UInt8 × List UInt8) : Bool := decide (x.2 ≠ [108]) && (decide (x.2 = []) || (decide (x.2 = [100]) || (decide (x.2 = [116]) || (hasB x.2 101 && (decide (x.2 ≠ []) && (decide (x.2 ≠ [100]) && (decide (x.2 ≠ [116]) && x.2.all fun p => decide (p = 101) || decide (p = 110))))))))
theorem gf_all : wdL.all gfB = true := by decide +kernel
theorem word_facts {t p : List UInt8} {least : Nat} (h : wdP t = some (p, least)) : GF (if t = listW then [108] else p) p least := by
  unfold wdP at h
  split at h
  · next e =>
    injection h with h
    injection h with h1 h2
    subst h1; subst h2
    rw [if_pos e]
    exact ⟨.inl ⟨rfl, rfl, rfl⟩, .inr (.inr (.inr ⟨by decide +kernel, by decide, by decide, by decide, by decide, fun q hq => .inl (List.eq_of_mem_replicate hq)⟩))⟩
  · next e =>
    obtain ⟨x, hx, e2⟩ := Option.map_eq_some_iff.1 h
    injection e2 with h1 h2
    subst h1; subst h2
    rw [if_neg e]
    have := List.all_eq_true.1 gf_all x (List.mem_of_find?_eq_some hx)
    unfold gfB at this
    simp only [Bool.or_eq_true, Bool.and_eq_true, decide_eq_true_eq, List.all_eq_true] at this
    refine ⟨.inr ⟨this.1, rfl, rfl⟩, ?_⟩
    rcases this.2 with h | h | h | ⟨h, ha, hb, hc, h4⟩
    · exact .inl ⟨h, h⟩
    · exact .inr (.inl ⟨h, h⟩)
    · exact .inr (.inr (.inl ⟨h, h⟩))
    · exact .inr (.inr (.inr ⟨h, ha, ha, hb, hc, h4⟩))
theorem wd_p64 {t p : List UInt8} {least : Nat} (h : wdP t = some (p, least)) : p.length ≤ 64 := by
  unfold wdP at h
  split at h
  · injection h with h
    injection h with h1 h2
    subst h1
    simp
  · obtain ⟨x, hx, e⟩ := Option.map_eq_some_iff.1 h
    injection e with h1 h2
    subst h1
    exact of_decide_eq_true (List.all_eq_true.1 (show (wdL.all fun x => decide (x.2.length ≤ 64)) = true by decide +kernel) x (List.mem_of_find?_eq_some hx))
def NdO (w w' : World) (d : Nat × Option Nd) (e : Ending) : Prop := ∃ (k0 : ByteArray) (k1 : Int) (k2 : ByteArray) (k3 : Int) (KA : Option Addr) (kn kc : Nat) (KK : Option Addr) (km kk : Nat),
  e = .returned (.tuple #[.agg #[.string k0, .int .i64 k1, .string k2, .int .i64 k3, .slice KA kn kc, .slice KK km kk], .int .i64 (d.1 : Int), .bool d.2.isSome]) ∧
    ∀ n, d.2 = some n → ∃ dd, NdAt w' (fun b => w.heap.size ≤ b) dd (.agg #[.string k0, .int .i64 k1, .string k2, .int .i64 k3, .slice KA kn kc, .slice KK km kk]) n
def ExD (r : Nat) : Prop := ∀ (s : ByteArray) (m : Nat) (w : World), s.size ≤ 1000000 → m ≤ s.size → Calls Tryz.prog 45 #[.string s, .int .i64 (m : Int), .int .i64 (r : Int)] w fun e w' =>
  (∃ d, RelD (bl s) d (exprR Knd.parseT (bl s) r (skip (bl s) m)) ∧ NdO w w' d e ∧ d.1 ≤ s.size) ∧ Below w.heap.size w w'
theorem ex_end {w WX : World} {s : ByteArray} {Q d : Nat × Option Nd} {k0 k2 : ByteArray} {k1 k3 : Int} {KA KK : Option Addr} {kn kc km kk : Nat} (hQ : Q.1 ≤ s.size) (hR : RelD (bl s) d Q) (hB : Below w.heap.size w WX)
    (hn : ∀ n, d.2 = some n → ∃ dd, NdAt WX (fun b => w.heap.size < b) dd (.agg #[.string k0, .int .i64 k1, .string k2, .int .i64 k3, .slice KA kn kc, .slice KK km kk]) n) :
    (∃ d', RelD (bl s) d' Q ∧ NdO w ((((((WX.setCell ⟨w.heap.size, 0, none⟩ (.string k0)).setCell ⟨w.heap.size, 1, none⟩ (.int .i64 k1)).setCell ⟨w.heap.size, 2, none⟩ (.string k2)).setCell ⟨w.heap.size, 3, none⟩ (.int .i64 k3)).setCell ⟨w.heap.size, 4, none⟩ (.slice KA kn kc)).setCell ⟨w.heap.size, 5, none⟩ (.slice KK km kk)) d' (.returned (.tuple #[.agg #[.string k0, .int .i64 k1, .string k2, .int .i64 k3, .slice KA kn kc, .slice KK km kk], .int .i64 (d.1 : Int), .bool d.2.isSome])) ∧ d'.1 ≤ s.size) ∧ Below w.heap.size w ((((((WX.setCell ⟨w.heap.size, 0, none⟩ (.string k0)).setCell ⟨w.heap.size, 1, none⟩ (.int .i64 k1)).setCell ⟨w.heap.size, 2, none⟩ (.string k2)).setCell ⟨w.heap.size, 3, none⟩ (.int .i64 k3)).setCell ⟨w.heap.size, 4, none⟩ (.slice KA kn kc)).setCell ⟨w.heap.size, 5, none⟩ (.slice KK km kk)) := by
  have hd : d.1 = Q.1 := by
    rcases hR with h | ⟨e, x, h1, h2, _⟩
    · rw [h]
    · rw [h1, h2]
  refine ⟨⟨d, hR, ⟨k0, k1, k2, k3, KA, kn, kc, KK, km, kk, rfl, fun n h => ?_⟩, by omega⟩, ?_⟩
  · obtain ⟨dd, hN⟩ := hn n h
    exact ⟨dd, NdAt.move (fun b hb _ => ⟨Nat.le_of_lt hb, fun o => World.cell?_of_block (set6_block (by have hb' : w.heap.size < b := hb; show b ≠ w.heap.size; omega))⟩) dd _ _ hN⟩
  · repeat' (first | with_reducible assumption | with_reducible refine Below.set_own ?_ ?_ | (dsimp only; omega))
theorem nb_out {l : List UInt8} {q : Nat} {e : Ending} (h : NbO l q e) : ∃ (v : Int) (ok : Bool), e = .returned (.tuple #[.int .i64 v, .int .i64 ((numN l q).1 : Int), .bool ok]) ∧ RelD l ((numN l q).1, if ok = true then some (.mk intW v [] ty0 []) else none) (numN l q) := by
  unfold NbO at h
  split at h
  · next hc =>
    refine ⟨_, true, h, .inl ?_⟩
    unfold numN
    rw [hc.1]
  · next hc =>
    refine ⟨0, false, h, ?_⟩
    cases hn : (numS l q).2.2 with
    | false => refine .inl ?_; unfold numN; rw [hn]; rfl
    | true =>
      refine .inr ⟨(numS l q).1, .mk intW (numV (rdB l q 45) (numS l q).2.1) [] ty0 [], by unfold numN; rw [hn]; rfl, rfl, ?_⟩
      have hd : isDig (lkB l (numS l q).1) = true := by
        cases hd : isDig (lkB l (numS l q).1) with
        | true => rfl
        | false => exact absurd ⟨hn, hd⟩ hc
      unfold BlD nmB
      rw [hd]
      simp
theorem own_some {w : World} {B : Nat} {e : TypeId} {size : Nat} {v : Value} {n : Nat} {xs : List Value} (h : w.ownsRow B e size v (n + 1) xs) : ∃ g c, v = .slice (some ⟨g, 0, none⟩) (n + 1) c := by
  rcases h.2 with ⟨_, h0⟩ | ⟨g, cap, cur, he, _⟩
  · omega
  · exact ⟨g, cap, he⟩
theorem cellsD_new (w : World) (a b c d e f : Value) (t : TypeId) (B : Nat) (hB : B = w.heap.size) : ∀ j u, [a, b, c, d, e, f][j]? = some u → (w.alloc (.cells #[a, b, c, d, e, f] t)).cell? ((⟨B, 0, none⟩ : Addr).add j) = some u := by
  intro j u hj
  subst hB
  have h : (w.alloc (.cells #[a, b, c, d, e, f] t)).heap[w.heap.size]? = some (.cells #[a, b, c, d, e, f] t (0, 0)) := heap_alloc_new w _
  have ha : ((⟨w.heap.size, 0, none⟩ : Addr).add j) = ⟨w.heap.size, j, none⟩ := by
    simp only [Addr.add]
    by_cases hk : j = 0 <;> simp [hk]
  rw [ha]
  rcases j with _ | _ | _ | _ | _ | _ | j
  · rw [cell6_0 h]; simpa using hj
  · rw [cell6_1 h]; simpa using hj
  · rw [cell6_2 h]; simpa using hj
  · rw [cell6_3 h]; simpa using hj
  · rw [cell6_4 h]; simpa using hj
  · rw [cell6_5 h]; simpa using hj
  · simp at hj
theorem sixD_one (o : ByteArray) (i : Int) (t : ByteArray) (k : Int) (A : Option Addr) (n c : Nat) (K : Option Addr) (m e : Nat) : ∀ u ∈ [Value.string o, .int .i64 i, .string t, .int .i64 k, .slice A n c, .slice K m e], u.oneCell' = true := by
  intro u hu
  simp only [List.mem_cons, List.not_mem_nil, or_false] at hu
  rcases hu with rfl | rfl | rfl | rfl | rfl | rfl <;> rfl
theorem afd_own {W w7 : World} {P n g cap : Nat} {vs : Value} {cs us : List Value} {o : Obj} (hown : W.ownsRow (P + 1) 37 6 vs n cs) (hP : P < W.heap.size) (hg : (W.alloc o).grownBy w7 vs.ownBlock)
    (hown7 : w7.ownsRow (P + 1) 37 6 (.slice (some ⟨g, 0, none⟩) (n + 1) cap) (n + 1) (cs ++ us)) (hat : vs.ownBlock = some g ∨ g = W.heap.size + 1) :
    AfD W (w7.setCell ⟨P, 5, none⟩ (.slice (some ⟨g, 0, none⟩) (n + 1) cap)) P n vs cs us := by
  have hgP : P + 1 ≤ g := (hown7.lt g rfl).1
  have hvP : some P ≠ vs.ownBlock := fun e => by have := (hown.lt P e.symm).1; omega
  have hkp : (w7.setCell ⟨P, 5, none⟩ (.slice (some ⟨g, 0, none⟩) (n + 1) cap)).ownsRow (P + 1) 37 6 (.slice (some ⟨g, 0, none⟩) (n + 1) cap) (n + 1) (cs ++ us) := hown7.kept (row := some P) (Only.set_ P 5 _ _) (.inr (fun e => by have e2 : g = P := (by simpa [Value.ownBlock] using e); omega))
  have hs7 : W.heap.size + 1 ≤ w7.heap.size := by have := hg.size; simpa using this
  refine ⟨g, cap, hkp, fun a0 a1 a2 a3 a4 h => ?_, ?_, hg.os, hg.tape, hg.output, ?_, fun k hk hkP hkv => ?_⟩
  · have h7 : w7.heap[P]? = some (.cells #[a0, a1, a2, a3, a4, vs] 37 (0, 0)) := by rw [hg.block P (by simp; omega) hvP, Below.heap_alloc _ _ _ hP]; exact h
    simp [World.setCell, Array.getElem?_modify, h7]
  · rcases hat with h | h
    · exact .inl h
    · exact .inr (by omega)
  · rw [setCell_heap_size]
    omega
  · have hkg : k ≠ g := fun e => by
      rcases hat with h | h
      · exact hkv (by rw [h, e])
      · omega
    rw [Below.heap_setCell _ _ _ _ hkP, hg.block k (by simp; omega) hkv, Below.heap_alloc _ _ _ hk]
theorem spel_none {l : List UInt8} {m : Nat} (h : isLet (lkB l m) = false) : spel l m = [] := by
  have h0 : lkB (l.drop m) 0 = lkB l m := by unfold lkB; simp
  have h1 : nmL (l.drop m) = 0 := nl_off (n := 0) (fun hc => by
    have := hc.2
    rw [h0, h] at this
    simp at this)
  unfold spel
  rw [h1]
  rfl
theorem infoD : (Tryz.prog.info? 37).map (fun i => (i.zero, i.size, i.bytes)) = some (some (.agg #[.string ⟨#[]⟩, .int .i64 0, .string ⟨#[]⟩, .int .i64 0, .slice none 0 0, .slice none 0 0]), 6, 96) := by kernel_rfl
def ExC (r : Nat) (s : ByteArray) (m : Nat) (w : World) : Prop := Calls Tryz.prog 45 #[.string s, .int .i64 (m : Int), .int .i64 ((r + 1 : Nat) : Int)] w fun e w' =>
  (∃ d, RelD (bl s) d (exprR Knd.parseT (bl s) (r + 1) (skip (bl s) m)) ∧ NdO w w' d e ∧ d.1 ≤ s.size) ∧ Below w.heap.size w w'
theorem let_dig {c : UInt8} (h : isLet c = true) : isDig c = false := by
  cases hd : isDig c with
  | false => rfl
  | true =>
    unfold isLet at h
    unfold isDig at hd
    simp only [Bool.and_eq_true, decide_eq_true_eq] at h hd
    omega
theorem no_parts {g p : List UInt8} {least : Nat} (h : GF g p least) (hg : g = []) : ¬ hasB p 101 = true := by
  rcases h.2 with h | h | h | h
  · rw [h.2]; decide
  · rw [hg] at h; exact absurd h.1 (by decide)
  · rw [hg] at h; exact absurd h.1 (by decide)
  · exact absurd hg h.2.1
theorem no_parts2 {g p : List UInt8} {least : Nat} (h : GF g p least) (hg : g = []) : p = [] := by
  rcases h.2 with h | h | h | h
  · exact h.2
  · rw [hg] at h; exact absurd h.1 (by decide)
  · rw [hg] at h; exact absurd h.1 (by decide)
  · exact absurd hg h.2.1
end Go.Proofs.YtadbnlnifacblaaGreatDoor
namespace Go.Proofs.YtadbnlnifacblaaGreatDoor
open Go.RowKit
set_option maxRecDepth 100000 in
set_option maxHeartbeats 64000000 in
theorem expr_stepA (r : Nat) (_hr : r ≤ 23) (IH : 0 < r → ExD r) (s : ByteArray) (m : Nat) (w : World) (hs : s.size ≤ 1000000) (hm : m ≤ s.size) (hA0 : isLet (lkB (bl s) (skip (bl s) m)) = true → ¬ ((spel (bl s) (skip (bl s) m)).length = 16 ∧ nmB (lkB (bl s) (skip (bl s) m + 16)) = true) → ∀ p least, wdP (spel (bl s) (skip (bl s) m)) = some (p, least) → p ≠ [] → (hasB p 101 = true → ¬ r = 0 → False) ∧ (hasB p 101 = false → False)) : ExC r s m w := by
  unfold ExC
  have HIH := Lib.hid IH
  have hsk := skip_le (l := bl s) (m := m) (by rw [bl_length]; exact hm)
  rw [bl_length] at hsk
  obtain ⟨q, hq⟩ : ∃ q, q = skip (bl s) m := ⟨_, rfl⟩
  rw [← hq] at hsk hA0 ⊢
  have HA0 := Lib.hid hA0
  clear hA0
  have HQ := Lib.hid hq
  clear hq IH
  have hb0 := (Below.refl w.heap.size w).alloc (Nat.le_refl _) (.cells #[.string ⟨#[]⟩, .int .i64 0, .string ⟨#[]⟩, .int .i64 0, .slice none 0 0, .slice none 0 0] 37)
  have HC0 := Lib.hid (heap_alloc_new w (.cells #[.string ⟨#[]⟩, .int .i64 0, .string ⟨#[]⟩, .int .i64 0, .slice none 0 0, .slice none 0 0] 37))
  have hs0 : (w.alloc (.cells #[.string ⟨#[]⟩, .int .i64 0, .string ⟨#[]⟩, .int .i64 0, .slice none 0 0, .slice none 0 0] 37)).heap.size = w.heap.size + 1 := by simp
  have HB0 := Lib.hid hb0
  clear hb0
  go_enter Tryz.func45, Tryz.ntmps45
  go_wp2_with (fail)
  refine (skip_d s m _ hs hm).mono ?_
  rw [← HQ.out]
  rintro e w1 ⟨rfl, hw1⟩
  subst hw1
  generalize w.alloc (.cells #[.string ⟨#[]⟩, .int .i64 0, .string ⟨#[]⟩, .int .i64 0, .slice none 0 0, .slice none 0 0] 37) = w1 at *
  have z0 := cell6_0 HC0.out
  have z1 := cell6_1 HC0.out
  have z2 := cell6_2 HC0.out
  have z3 := cell6_3 HC0.out
  have z4 := cell6_4 HC0.out
  have z5 := cell6_5 HC0.out
  have zf0 := cell3_f HC0.out 0
  have zf1 := cell3_f HC0.out 1
  have zf2 := cell3_f HC0.out 2
  have zf3 := cell3_f HC0.out 3
  have zf4 := cell3_f HC0.out 4
  have zf5 := cell3_f HC0.out 5
  have zl := cell_lt HC0.out
  by_cases hqe : q < s.size
  · have hqI : decide (s.size ≤ q) = false := by simp; omega
    have hix := str_index s q hqe hs
    rw [← bl_at s q hqe] at hix
    have HQL : Hid ((exprR Knd.parseT (bl s) (r + 1) q).1 ≤ s.size) := by
      have := (expr_in kp_ok (l := bl s) (r + 1) q (by rw [bl_length]; omega)).2
      rw [bl_length] at this
      exact this
    have HEX : Hid (exprR Knd.parseT (bl s) (r + 1) q = (if decide (lkB (bl s) q = 45) || isDig (lkB (bl s) q) then numN (bl s) q
      else if lkB (bl s) q = 34 then strN (bl s) q
      else if isLet (lkB (bl s) q) then (match wdP (spel (bl s) q) with
        | none => (q + (spel (bl s) q).length, some (nameN (spel (bl s) q)))
        | some (p, least) => if hasB p 101 && decide (r = 0) then (q + (spel (bl s) q).length, none)
          else if p = [] then (q + (spel (bl s) q).length, some (.mk (spel (bl s) q) 0 [] ty0 []))
          else partsR Knd.parseT (exprR Knd.parseT (bl s) r) (bl s) least p 0 40 (q + (spel (bl s) q).length) (.mk (spel (bl s) q) 0 [] ty0 []))
      else (q, none))) := Lib.hid rfl
    by_cases h34 : lkB (bl s) q = 34
    · 
      have g34 : ((lkB (bl s) q).toNat : Int) = 34 := by rw [h34]; rfl
      have HE : Hid (exprR Knd.parseT (bl s) (r + 1) q = strN (bl s) q) := by show _ = _; rw [HEX.out, h34]; rfl
      rw [g34] at hix
      obtain ⟨p, hp⟩ : ∃ p, p = q + 1 := ⟨_, rfl⟩
      have hpI : (q : Int) + 1 = (p : Int) := by omega
      have HP : Hid (strN (bl s) q = bindP (strF (bl s) 257 [] p) fun m' t => (m', some (.mk textW 0 t ty0 []))) := by show _ = _; rw [hp]; rfl
      have hps : p ≤ s.size := by omega
      clear h34 g34 hp
      go_wp2_with (fail)
      refine (text_d s p w1 hs hps).mono ?_
      rw [HP.out] at HE
      revert HE
      cases strF (bl s) 257 [] p with
      | mk m' o =>
      intro HE
      rintro e w2 ⟨ht, hb2⟩
      have HB2 := Lib.hid (HB0.out.trans (hb2.mono (by omega)))
      have HC2 := Lib.hid (below_at hb2 HC0.out)
      clear hb2 z0 zf0 z1 zf1 z2 zf2 z3 zf3 z4 zf4 z5 zf5 zl HC0 HB0
      have z0 := cell6_0 HC2.out
      have z1 := cell6_1 HC2.out
      have z2 := cell6_2 HC2.out
      have z3 := cell6_3 HC2.out
      have z4 := cell6_4 HC2.out
      have z5 := cell6_5 HC2.out
      have zf0 := cell3_f HC2.out 0
      have zf1 := cell3_f HC2.out 1
      have zf2 := cell3_f HC2.out 2
      have zf3 := cell3_f HC2.out 3
      have zf4 := cell3_f HC2.out 4
      have zf5 := cell3_f HC2.out 5
      have zl := cell_lt HC2.out
      cases o with
      | none =>
        obtain rfl : e = .returned (.tuple #[.string ⟨#[]⟩, .int .i64 (m' : Int), .bool false]) := ht
        go_wp2_with (fail)
        refine bodyPost_ret (v := .tuple #[.agg #[.string ⟨#[116, 101, 120, 116, 95, 111, 102]⟩, .int .i64 0, .string ⟨#[]⟩, .int .i64 0, .slice none 0 0, .slice none 0 0], .int .i64 (m' : Int), .bool false]) (by simp [results, Tryz.results45, go_sem, z0, z1, z2, z3, z4, z5]) rfl ?_
        exact ex_end (s := s) (d := (m', none)) HQL.out (by rw [HE.out]; exact .rfl') HB2.out (fun n h => by cases h)
      | some t =>
        obtain rfl : e = .returned (.tuple #[.string ⟨t.toArray⟩, .int .i64 (m' : Int), .bool true]) := ht
        go_wp2_with (fail)
        refine bodyPost_ret (v := .tuple #[.agg #[.string ⟨#[116, 101, 120, 116, 95, 111, 102]⟩, .int .i64 0, .string ⟨t.toArray⟩, .int .i64 0, .slice none 0 0, .slice none 0 0], .int .i64 (m' : Int), .bool true]) (by simp [results, Tryz.results45, go_sem, z0, z1, z2, z3, z4, z5]) rfl ?_
        exact ex_end (s := s) (d := (m', some (.mk textW 0 t ty0 []))) HQL.out (by rw [HE.out]; exact .rfl') HB2.out (fun n h => by cases h; exact ⟨1, NdAt.leaf _ _ 0 textW 0 t⟩)
    · have g34 : (((lkB (bl s) q).toNat : Int) == 34) = false := by
        simp only [beq_eq_false_iff_ne, ne_eq]
        intro hh
        exact h34 (UInt8.toNat_inj.1 (by have h34 : (34 : UInt8).toNat = 34 := rfl; omega))
      have HNB : Hid (rdB (bl s) q 45 = true ∨ (rdB (bl s) q 45 = false ∧ isDig (lkB (bl s) q) = true) → Calls Tryz.prog 81 #[.string s, .int .i64 (q : Int)] w1 fun e w' => NbO (bl s) q e ∧ w' = w1) := fun h => by
        rcases h with h | ⟨h, h'⟩
        · exact number_neg s q w1 hs hqe h
        · exact number_pos s q w1 hs hqe h h'
      have HNM : Hid (∀ (v : Int) (ok : Bool), RelD (bl s) ((numN (bl s) q).1, if ok = true then some (.mk intW v [] ty0 []) else none) (numN (bl s) q) → exprR Knd.parseT (bl s) (r + 1) q = numN (bl s) q → (∃ d', RelD (bl s) d' (exprR Knd.parseT (bl s) (r + 1) q) ∧ NdO w ((((((w1.setCell ⟨w.heap.size, 0, none⟩ (.string ⟨#[105, 110, 116]⟩)).setCell ⟨w.heap.size, 1, none⟩ (.int .i64 v)).setCell ⟨w.heap.size, 2, none⟩ (.string ⟨#[]⟩)).setCell ⟨w.heap.size, 3, none⟩ (.int .i64 0)).setCell ⟨w.heap.size, 4, none⟩ (.slice none 0 0)).setCell ⟨w.heap.size, 5, none⟩ (.slice none 0 0)) d' (.returned (.tuple #[.agg #[.string ⟨#[105, 110, 116]⟩, .int .i64 v, .string ⟨#[]⟩, .int .i64 0, .slice none 0 0, .slice none 0 0], .int .i64 ((numN (bl s) q).1 : Int), .bool ok])) ∧ d'.1 ≤ s.size) ∧ Below w.heap.size w ((((((w1.setCell ⟨w.heap.size, 0, none⟩ (.string ⟨#[105, 110, 116]⟩)).setCell ⟨w.heap.size, 1, none⟩ (.int .i64 v)).setCell ⟨w.heap.size, 2, none⟩ (.string ⟨#[]⟩)).setCell ⟨w.heap.size, 3, none⟩ (.int .i64 0)).setCell ⟨w.heap.size, 4, none⟩ (.slice none 0 0)).setCell ⟨w.heap.size, 5, none⟩ (.slice none 0 0))) := fun v ok hR hE => by
        have hl := HQL.out
        cases ok with
        | true => exact ex_end (s := s) (d := ((numN (bl s) q).1, some (.mk intW v [] ty0 []))) hl (by rw [hE]; exact hR) HB0.out (fun n h => by cases h; exact ⟨1, NdAt.leaf _ _ 0 intW v []⟩)
        | false => exact ex_end (s := s) (d := ((numN (bl s) q).1, none)) hl (by rw [hE]; exact hR) HB0.out (fun n h => by cases h)
      by_cases h45 : rdB (bl s) q 45 = true
      · 
        have h45' : lkB (bl s) q = 45 := of_decide_eq_true h45
        have g45 : ((lkB (bl s) q).toNat : Int) = 45 := by rw [h45']; rfl
        have HE : Hid (exprR Knd.parseT (bl s) (r + 1) q = numN (bl s) q) := by show _ = _; rw [HEX.out, h45']; rfl
        have HN := Lib.hid (HNB.out (.inl h45))
        rw [g45] at hix
        clear h34 g34 h45 h45' g45 HEX HNB
        go_wp2_with (fail)
        refine HN.out.mono ?_
        rintro e w2 ⟨hN, hw2⟩
        subst hw2
        obtain ⟨v, ok, rfl, hR⟩ := nb_out hN
        have HF := Lib.hid (HNM.out v ok hR HE.out)
        clear hN hR
        go_wp2_with (fail)
        refine bodyPost_ret (v := .tuple #[.agg #[.string ⟨#[105, 110, 116]⟩, .int .i64 v, .string ⟨#[]⟩, .int .i64 0, .slice none 0 0, .slice none 0 0], .int .i64 ((numN (bl s) q).1 : Int), .bool ok]) (by simp [results, Tryz.results45, go_sem, z0, z1, z2, z3, z4, z5]) rfl ?_
        exact HF.out
      · have h45f : rdB (bl s) q 45 = false := by simpa using h45
        have g45 : (((lkB (bl s) q).toNat : Int) == 45) = false := by
          simp only [beq_eq_false_iff_ne, ne_eq]
          intro hh
          exact h45 (decide_eq_true (UInt8.toNat_inj.1 (by have h45 : (45 : UInt8).toNat = 45 := rfl; omega)))
        have HDG := Lib.hid (digit_d (lkB (bl s) q) w1)
        have h45d : decide (lkB (bl s) q = 45) = false := h45f
        cases hdg : isDig (lkB (bl s) q) with
        | true => 
          rw [hdg] at HDG
          have HE : Hid (exprR Knd.parseT (bl s) (r + 1) q = numN (bl s) q) := by show _ = _; rw [HEX.out, hdg]; simp
          have HN := Lib.hid (HNB.out (.inr ⟨h45f, hdg⟩))
          clear h34 h45 h45f h45d hdg HEX HNB
          go_wp2_with (fail)
          refine HDG.out.mono ?_
          rintro e w2 ⟨rfl, rfl⟩
          go_wp2_with (fail)
          refine HN.out.mono ?_
          rintro e w2 ⟨hN, hw2⟩
          subst hw2
          obtain ⟨v, ok, rfl, hR⟩ := nb_out hN
          have HF := Lib.hid (HNM.out v ok hR HE.out)
          clear hN hR
          go_wp2_with (fail)
          refine bodyPost_ret (v := .tuple #[.agg #[.string ⟨#[105, 110, 116]⟩, .int .i64 v, .string ⟨#[]⟩, .int .i64 0, .slice none 0 0, .slice none 0 0], .int .i64 ((numN (bl s) q).1 : Int), .bool ok]) (by simp [results, Tryz.results45, go_sem, z0, z1, z2, z3, z4, z5]) rfl ?_
          exact HF.out
        | false =>
          rw [hdg] at HDG
          have HWD := Lib.hid (word_d s q w1 hs (by omega))
          have HEW : Hid (exprR Knd.parseT (bl s) (r + 1) q = (if isLet (lkB (bl s) q) then (match wdP (spel (bl s) q) with
              | none => (q + (spel (bl s) q).length, some (nameN (spel (bl s) q)))
              | some (p, least) => if hasB p 101 && decide (r = 0) then (q + (spel (bl s) q).length, none)
                else if p = [] then (q + (spel (bl s) q).length, some (.mk (spel (bl s) q) 0 [] ty0 []))
                else partsR Knd.parseT (exprR Knd.parseT (bl s) r) (bl s) least p 0 40 (q + (spel (bl s) q).length) (.mk (spel (bl s) q) 0 [] ty0 []))
            else (q, none))) := by show _ = _; rw [HEX.out, hdg, h45d, if_neg h34]; rfl
          clear h34 h45 h45f h45d hdg HEX HNB HNM
          cases hlt : isLet (lkB (bl s) q) with
          | false => 
            have HF : Hid (isLet (lkB (bl s) q) = false) := Lib.hid hlt
            clear hlt
            go_wp2_with (fail)
            refine HDG.out.mono ?_
            rintro e w2 ⟨rfl, rfl⟩
            go_wp2_with (fail)
            refine HWD.out.mono ?_
            rintro e w2 ⟨hW, hw2⟩
            subst hw2
            unfold WdO at hW
            rw [HF.out, if_neg (by simp)] at hW
            subst hW
            go_wp2_with (fail)
            refine bodyPost_ret (v := .tuple #[.agg #[.string ⟨#[]⟩, .int .i64 0, .string ⟨#[]⟩, .int .i64 0, .slice none 0 0, .slice none 0 0], .int .i64 (q : Int), .bool false]) (by simp [results, Tryz.results45, go_sem, z0, z1, z2, z3, z4, z5]) rfl ?_
            exact ex_end (s := s) (d := (q, none)) HQL.out (by rw [HEW.out, HF.out]; exact .rfl') HB0.out (fun n h => by cases h)
          | true =>
            have HF : Hid (isLet (lkB (bl s) q) = true) := Lib.hid hlt
            clear hlt
            obtain ⟨t, ht⟩ : ∃ t, t = spel (bl s) q := ⟨_, rfl⟩
            obtain ⟨en, hen⟩ : ∃ en, en = q + (spel (bl s) q).length := ⟨_, rfl⟩
            have hen2 : en ≤ s.size := by
              have := nmL_le ((bl s).drop q)
              rw [hen, spel_len]
              rw [List.length_drop, bl_length] at this
              omega
            by_cases h16 : (spel (bl s) q).length = 16 ∧ nmB (lkB (bl s) (q + 16)) = true
            · 
              have HG := Lib.hid h16
              have HW0 := Lib.hid (spel_full h16.1)
              clear h16
              go_wp2_with (fail)
              refine HDG.out.mono ?_
              rintro e w2 ⟨rfl, rfl⟩
              go_wp2_with (fail)
              refine HWD.out.mono ?_
              rintro e w2 ⟨hW, hw2⟩
              subst hw2
              unfold WdO at hW
              rw [HF.out, if_pos rfl, if_pos HG.out] at hW
              subst hW
              go_wp2_with (fail)
              refine bodyPost_ret (v := .tuple #[.agg #[.string ⟨#[]⟩, .int .i64 0, .string ⟨#[]⟩, .int .i64 0, .slice none 0 0, .slice none 0 0], .int .i64 ((q + 16 : Nat) : Int), .bool false]) (by simp [results, Tryz.results45, go_sem, z0, z1, z2, z3, z4, z5]) rfl ?_
              exact ex_end (s := s) (d := (q + 16, none)) HQL.out (by
                rw [HEW.out, HF.out, HW0.out, HG.out.1]
                exact .inr ⟨q + 16, _, rfl, rfl, HG.out.2⟩) HB0.out (fun n h => by cases h)
            · 
              have HG := Lib.hid h16
              have HPD := Lib.hid (parts_any_d t w1)
              have HDP : Hid (partsD t = docP (spel (bl s) q)) := by show _ = _; rw [ht]; exact partsD_wd _
              have HT := Lib.hid ht
              have HEN := Lib.hid hen
              clear h16 ht hen
              go_wp2_with (fail)
              refine HDG.out.mono ?_
              rintro e w2 ⟨rfl, rfl⟩
              go_wp2_with (fail)
              refine HWD.out.mono ?_
              rintro e w2 ⟨hW, hw2⟩
              subst hw2
              unfold WdO at hW
              rw [HF.out, if_pos rfl, if_neg HG.out, ← HT.out] at hW
              rw [show q + t.length = en by rw [HEN.out, HT.out]] at hW
              subst hW
              go_wp2_with (fail)
              refine HPD.out.mono ?_
              rintro e w2 ⟨hP, hb2⟩
              rw [HDP.out] at hP
              have HB2 := Lib.hid (HB0.out.trans (hb2.mono (by omega)))
              have HC2 := Lib.hid (below_at hb2 HC0.out)
              clear hb2 z0 zf0 z1 zf1 z2 zf2 z3 zf3 z4 zf4 z5 zf5 zl HC0 HB0
              have z0 := cell6_0 HC2.out
              have z1 := cell6_1 HC2.out
              have z2 := cell6_2 HC2.out
              have z3 := cell6_3 HC2.out
              have z4 := cell6_4 HC2.out
              have z5 := cell6_5 HC2.out
              have zf0 := cell3_f HC2.out 0
              have zf1 := cell3_f HC2.out 1
              have zf2 := cell3_f HC2.out 2
              have zf3 := cell3_f HC2.out 3
              have zf4 := cell3_f HC2.out 4
              have zf5 := cell3_f HC2.out 5
              have zl := cell_lt HC2.out
              cases hwp : wdP (spel (bl s) q) with
              | none => 
                rw [show docP (spel (bl s) q) = none by unfold docP; rw [hwp]; rfl] at hP
                have hP' : e = .returned (.tuple #[.string ⟨#[]⟩, .bool false]) := hP
                have HW0 := Lib.hid hwp
                subst hP'
                clear hP hwp
                go_wp2_with (fail)
                refine bodyPost_ret (v := .tuple #[.agg #[.string ⟨#[110, 97, 109, 101]⟩, .int .i64 0, .string ⟨t.toArray⟩, .int .i64 0, .slice none 0 0, .slice none 0 0], .int .i64 (en : Int), .bool true]) (by simp [results, Tryz.results45, go_sem, z0, z1, z2, z3, z4, z5]) rfl ?_
                exact ex_end (s := s) (d := (en, some (nameN t))) HQL.out (by
                  rw [HEW.out, HF.out, HW0.out, ← HT.out, show q + t.length = en by rw [HEN.out, HT.out]]
                  exact .rfl') HB2.out (fun n h => by cases h; exact ⟨1, NdAt.leaf _ _ 0 [110, 97, 109, 101] 0 t⟩)
              | some x =>
                obtain ⟨p, least⟩ := x
                have hwpS := Lib.hid hwp
                obtain ⟨g, hg⟩ : ∃ g, g = (if spel (bl s) q = listW then [108] else p) := ⟨_, rfl⟩
                rw [show docP (spel (bl s) q) = some g by unfold docP; rw [hwp, hg]; rfl] at hP
                have hP' : e = .returned (.tuple #[.string ⟨g.toArray⟩, .bool true]) := hP
                subst hP'
                have hgf := word_facts hwp
                rw [← hg] at hgf
                have HGF := Lib.hid hgf
                have HEP : Hid (exprR Knd.parseT (bl s) (r + 1) q = if hasB p 101 && decide (r = 0) then (en, none) else if p = [] then (en, some (.mk t 0 [] ty0 [])) else partsR Knd.parseT (exprR Knd.parseT (bl s) r) (bl s) least p 0 40 en (.mk t 0 [] ty0 [])) := by
                  show _ = _
                  rw [HEW.out, HF.out, if_pos rfl, hwp, ← HT.out, show q + t.length = en by rw [HEN.out, HT.out]]
                have HP64 := Lib.hid (wd_p64 hwp)
                clear hP hwp hg hgf HEW
                go_upto_region 17 with (fail)
                have HPN0 := Lib.hid (PnD.new w2 t)
                have hba := (Below.refl w2.heap.size w2).alloc (Nat.le_refl _) (.cells #[.string ⟨t.toArray⟩, .int .i64 0, .string ⟨#[]⟩, .int .i64 0, .slice none 0 0, .slice none 0 0] 37)
                have HB3 := Lib.hid (HB2.out.trans (hba.mono (by omega)))
                have HC3 := Lib.hid ((hba.block w.heap.size (by omega)).trans HC2.out)
                have hRP0 : w.heap.size < w2.heap.size := by omega
                have hPs0 : w2.heap.size < (w2.alloc (.cells #[.string ⟨t.toArray⟩, .int .i64 0, .string ⟨#[]⟩, .int .i64 0, .slice none 0 0, .slice none 0 0] 37)).heap.size := by simp
                clear hba HC2 HB2 z0 zf0 z1 zf1 z2 zf2 z3 zf3 z4 zf4 z5 zf5 zl
                generalize w2.alloc (.cells #[.string ⟨t.toArray⟩, .int .i64 0, .string ⟨#[]⟩, .int .i64 0, .slice none 0 0, .slice none 0 0] 37) = w3 at *
                generalize w2.heap.size = P at *
                have z0 := cell6_0 HC3.out
                have z1 := cell6_1 HC3.out
                have z2 := cell6_2 HC3.out
                have z3 := cell6_3 HC3.out
                have z4 := cell6_4 HC3.out
                have z5 := cell6_5 HC3.out
                have zf0 := cell3_f HC3.out 0
                have zf1 := cell3_f HC3.out 1
                have zf2 := cell3_f HC3.out 2
                have zf3 := cell3_f HC3.out 3
                have zf4 := cell3_f HC3.out 4
                have zf5 := cell3_f HC3.out 5
                have zl := cell_lt HC3.out
                by_cases hgn : g = []
                · 
                  have HG1 : Hid (exprR Knd.parseT (bl s) (r + 1) q = (en, some (.mk t 0 [] ty0 []))) := by
                    have hp : p = [] := by
                      rcases HGF.out.2 with h | h | h | h
                      · exact h.2
                      · rw [hgn] at h; exact absurd h.1 (by decide)
                      · rw [hgn] at h; exact absurd h.1 (by decide)
                      · exact absurd hgn h.2.1
                    show _ = _
                    rw [HEP.out, hp]
                    rfl
                  subst hgn
                  have HBX : Hid (w3.heap[P]? = some (.cells #[.string ⟨t.toArray⟩, .int .i64 0, .string ⟨#[]⟩, .int .i64 0, .slice none 0 0, .slice none 0 0] 37 (0, 0))) := HPN0.out.box
                  have y0 := cell6_0 HBX.out
                  have y1 := cell6_1 HBX.out
                  have y2 := cell6_2 HBX.out
                  have y3 := cell6_3 HBX.out
                  have y4 := cell6_4 HBX.out
                  have y5 := cell6_5 HBX.out
                  go_wp2_with (fail)
                  refine bodyPost_ret (v := .tuple #[.agg #[.string ⟨t.toArray⟩, .int .i64 0, .string ⟨#[]⟩, .int .i64 0, .slice none 0 0, .slice none 0 0], .int .i64 (en : Int), .bool true]) (by simp [results, Tryz.results45, go_sem, z0, z1, z2, z3, z4, z5]) rfl ?_
                  exact ex_end (s := s) (d := (en, some (.mk t 0 [] ty0 []))) HQL.out (by rw [HG1.out]; exact .rfl') HB3.out (fun n h => by cases h; exact ⟨1, NdAt.leaf _ _ 0 t 0 []⟩)
                · have hGn : g.isEmpty = false := by cases g with | nil => exact absurd rfl hgn | cons a b => rfl
                  have hGn2 : (g == []) = false := by simp [hgn]
                  have hpn : p ≠ [] := by
                    rcases HGF.out.2 with h | h | h | h
                    · exact absurd h.1 hgn
                    · rw [h.2]; simp
                    · rw [h.2]; simp
                    · exact h.2.2.1
                  have HEQ : Hid (exprR Knd.parseT (bl s) (r + 1) q = if hasB p 101 && decide (r = 0) then (en, none) else partsR Knd.parseT (exprR Knd.parseT (bl s) r) (bl s) least p 0 40 en (.mk t 0 [] ty0 [])) := by
                    show _ = _
                    rw [HEP.out, if_neg hpn]
                  have HPNE := Lib.hid hpn
                  clear hgn hpn HEP
                  by_cases hwe : hasB p 101 = true
                  · have HWE := Lib.hid hwe
                    have hgd : g ≠ [100] ∧ g ≠ [116] ∧ ∀ b ∈ p, b = 101 ∨ b = 110 := by
                      rcases HGF.out.2 with h | h | h | h
                      · exact absurd h.2 HPNE.out
                      · rw [h.2] at hwe; exact absurd hwe (by decide)
                      · rw [h.2] at hwe; exact absurd hwe (by decide)
                      · exact h.2.2.2
                    have HPB := Lib.hid hgd.2.2
                    have hG100 : (g == [100]) = false := by simp [hgd.1]
                    have hG116 : (g == [116]) = false := by simp [hgd.2.1]
                    have hH100 := hgd.1
                    have hH116 := hgd.2.1
                    clear hwe hgd
                    by_cases hr0 : r = 0
                    · 
                      have HR1 : Hid (exprR Knd.parseT (bl s) (r + 1) q = (en, none)) := by
                        show _ = _
                        rw [HEQ.out, HWE.out, hr0]
                        rfl
                      have hrI : (r : Int) + 1 = 1 := by omega
                      clear hr0
                      go_wp2_with (fail)
                      refine bodyPost_ret (v := .tuple #[.agg #[.string ⟨#[]⟩, .int .i64 0, .string ⟨#[]⟩, .int .i64 0, .slice none 0 0, .slice none 0 0], .int .i64 (en : Int), .bool false]) (by simp [results, Tryz.results45, go_sem, z0, z1, z2, z3, z4, z5]) rfl ?_
                      exact ex_end (s := s) (d := (en, none)) HQL.out (by rw [HR1.out]; exact .rfl') HB3.out (fun n h => by cases h)
                    · exact ((HA0.out HF.out HG.out p least hwpS.out HPNE.out).1 HWE.out hr0).elim
                  · exact ((HA0.out HF.out HG.out p least hwpS.out HPNE.out).2 (by simpa using hwe)).elim
  · have hqI : decide (s.size ≤ q) = true := by simp; omega
    have HE : Hid (exprR Knd.parseT (bl s) (r + 1) q = (q, none)) := by
      show _ = _
      unfold exprR
      rw [lkB_end (by rw [bl_length]; omega)]
      rfl
    go_wp2_with (fail)
    refine bodyPost_ret (v := .tuple #[.agg #[.string ⟨#[]⟩, .int .i64 0, .string ⟨#[]⟩, .int .i64 0, .slice none 0 0, .slice none 0 0], .int .i64 (q : Int), .bool false]) (by simp [results, Tryz.results45, go_sem, z0, z1, z2, z3, z4, z5]) rfl ?_
    rw [HE.out]
    exact ex_end (s := s) (d := (q, none)) (by show q ≤ _; omega) .rfl' HB0.out (fun n h => by cases h)
end Go.Proofs.YtadbnlnifacblaaGreatDoor
