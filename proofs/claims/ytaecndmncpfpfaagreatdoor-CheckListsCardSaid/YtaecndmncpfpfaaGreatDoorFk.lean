/-
What CheckLists wants besides: Emits; types like themselves.
-/
import Derived.Test.YtaecndmncpfpfaaGreatDoorFc
import Derived.Test.YtaecndmncpfpfaaGreatDoorCw
import Derived.Test.YtaecndmncpfpfaaGreatDoorKm
set_option linter.unusedVariables false
set_option linter.unusedSimpArgs false
namespace Go.Proofs.YtaecndmncpfpfaaGreatDoor.Knd
open Go.RowKit
theorem eqL_self (f : Ty → Ty → Bool) : ∀ l : List Ty, (∀ a ∈ l, f a a = true) → eqL f l l = true
  | [], _ => rfl
  | a :: l, h => by
    simp only [eqL, Bool.and_eq_true]
    exact ⟨h a (List.mem_cons_self ..), eqL_self f l (fun b hb => h b (List.mem_cons_of_mem _ hb))⟩
theorem eqT_self : ∀ (r : Nat) (t : Ty) (q : Nat), measureT r t = some q → eqT r t t = true
  | 0, t, q, h => by simp [measureT] at h
  | r + 1, t, q, h => by
    obtain ⟨x, _, _, _, hall⟩ := measure_right h
    simp only [eqT, beq_self_eq_true, Bool.true_and]
    exact eqL_self _ _ fun a ha => by
      obtain ⟨q', hq⟩ := hall a ha
      exact eqT_self r a q' hq
end Go.Proofs.YtaecndmncpfpfaaGreatDoor.Knd
namespace Go.Proofs.YtaecndmncpfpfaaGreatDoor
open Go.RowKit
def emiR (x : Except (Int × List Int) Ty) : Except (Int × List Int) Ty :=
  match x with
  | .error y => .error y
  | .ok t => if t.kind = 7 then .ok (t.args.headD ty0) else .error (50, [])
def EmOut (w w' : World) (e : Ending) : Except (Int × List Int) Ty → Prop
  | .error (no, qs) => no ≠ 0 ∧ ∃ av, e = .returned (.tuple #[.agg #[.int .i64 0, .slice none 0 0], av, .int .i64 no]) ∧ w'.ownsRow w.heap.size 3 1 av qs.length (qs.map fun p => .int .i64 p)
  | .ok t => ∃ v D, e = .returned (.tuple #[v, .slice none 0 0, .int .i64 0]) ∧ TyAt w' (fun b => w.heap.size ≤ b) D v t
theorem own_put2 {w : World} {base : Nat} {e : TypeId} {size : Nat} {v : Value} {n : Nat} {xs : List Value} (h : w.ownsRow base e size v n xs) {R : Nat} (ha : v.ownBlock ≠ some R) (x y : Value) : ((w.setCell ⟨R, 0, none⟩ x).setCell ⟨R, 1, none⟩ y).ownsRow base e size v n xs :=
  ownsRow_setCell_other (ownsRow_setCell_other h (a := ⟨R, 0, none⟩) ha x) (a := ⟨R, 1, none⟩) ha y
set_option maxRecDepth 100000 in
set_option maxHeartbeats 4000000 in
theorem Emits_any (n : Nd) (S : Nat → Prop) (dn : Nat) (nv : Value) (it : Ty) (sides : List Ty) (A' SA : Option Addr) (k' sk : Nat) (res : Except (Int × List Int) Ty) (w : World) (hn : NdAt w S dn nv n) (hres : ∀ t, res = .ok t → RT t)
    (HI : ∀ w1, Below w.heap.size w w1 → Calls Tryz.prog 11 #[nv, .agg #[.int .i64 it.kind, .slice A' it.args.length k', .slice SA sides.length sk]] w1 fun e w' => InfOut w1 w' e res ∧ Below w1.heap.size w1 w') :
    Calls Tryz.prog 14 #[nv, .agg #[.int .i64 it.kind, .slice A' it.args.length k', .slice SA sides.length sk]] w fun e w' => EmOut w w' e (emiR res) ∧ Below w.heap.size w w' := by
  obtain ⟨A, c, K, k, rfl⟩ := hn.form
  obtain ⟨w1, hw1⟩ : ∃ w1, ((w.alloc (.cells #[.string ⟨n.op.toArray⟩, .int .i64 n.int, .string ⟨n.text.toArray⟩, .int .i64 n.ty.kind, .slice A n.ty.args.length c, .slice K n.kids.length k] 41)).alloc (.cells #[.int .i64 it.kind, .slice A' it.args.length k', .slice SA sides.length sk] 44)).alloc (.cells #[.int .i64 0, .slice none 0 0] 34) = w1 := ⟨_, rfl⟩
  have hb1 : Below w.heap.size w w1 := by
    rw [← hw1]
    exact (((Below.refl w.heap.size w).alloc (Nat.le_refl _) _).alloc (by simp) _).alloc (by simp; omega) _
  have hs1 : w1.heap.size = w.heap.size + 3 := by rw [← hw1]; simp
  have h12 : w1.heap[w.heap.size + 1 + 1]? = some (.cells #[.int .i64 0, .slice none 0 0] 34 (0, 0)) := by
    have h := heap_alloc_new ((w.alloc (.cells #[.string ⟨n.op.toArray⟩, .int .i64 n.int, .string ⟨n.text.toArray⟩, .int .i64 n.ty.kind, .slice A n.ty.args.length c, .slice K n.kids.length k] 41)).alloc (.cells #[.int .i64 it.kind, .slice A' it.args.length k', .slice SA sides.length sk] 44)) (.cells #[.int .i64 0, .slice none 0 0] 34)
    rw [hw1] at h
    simpa using h
  have h10 : w1.heap[w.heap.size]? = some (.cells #[.string ⟨n.op.toArray⟩, .int .i64 n.int, .string ⟨n.text.toArray⟩, .int .i64 n.ty.kind, .slice A n.ty.args.length c, .slice K n.kids.length k] 41 (0, 0)) := by
    rw [← hw1]
    exact (Below.heap_alloc _ _ _ (by simp; omega)).trans ((Below.heap_alloc _ _ _ (by simp)).trans (heap_alloc_new w _))
  have h11 : w1.heap[w.heap.size + 1]? = some (.cells #[.int .i64 it.kind, .slice A' it.args.length k', .slice SA sides.length sk] 44 (0, 0)) := by
    rw [← hw1]
    exact (Below.heap_alloc _ _ _ (by simp)).trans (by simpa using heap_alloc_new (w.alloc (.cells #[.string ⟨n.op.toArray⟩, .int .i64 n.int, .string ⟨n.text.toArray⟩, .int .i64 n.ty.kind, .slice A n.ty.args.length c, .slice K n.kids.length k] 41)) (.cells #[.int .i64 it.kind, .slice A' it.args.length k', .slice SA sides.length sk] 44))
  have n0 : w1.cell? ⟨w.heap.size, 0, none⟩ = some (.string ⟨n.op.toArray⟩) := cellN (i := 0) h10 rfl
  have n1 : w1.cell? ⟨w.heap.size, 1, none⟩ = some (.int .i64 n.int) := cellN (i := 1) h10 rfl
  have n2 : w1.cell? ⟨w.heap.size, 2, none⟩ = some (.string ⟨n.text.toArray⟩) := cellN (i := 2) h10 rfl
  have n3 : w1.cell? ⟨w.heap.size, 3, none⟩ = some (.int .i64 n.ty.kind) := cellN (i := 3) h10 rfl
  have n4 : w1.cell? ⟨w.heap.size, 4, none⟩ = some (.slice A n.ty.args.length c) := cellN (i := 4) h10 rfl
  have n5 : w1.cell? ⟨w.heap.size, 5, none⟩ = some (.slice K n.kids.length k) := cellN (i := 5) h10 rfl
  have e0 : w1.cell? ⟨w.heap.size + 1, 0, none⟩ = some (.int .i64 it.kind) := cellN (i := 0) h11 rfl
  have e1 : w1.cell? ⟨w.heap.size + 1, 1, none⟩ = some (.slice A' it.args.length k') := cellN (i := 1) h11 rfl
  have e2 : w1.cell? ⟨w.heap.size + 1, 2, none⟩ = some (.slice SA sides.length sk) := cellN (i := 2) h11 rfl
  have HC1 := Lib.hid (HI w1 hb1)
  have HB1 := Lib.hid hb1
  have H12 := Lib.hid h12
  clear hb1 h12 h10 h11 HI hn
  go_enter Tryz.func14, Tryz.ntmps14
  go_wp2_with (fail)
  refine HC1.out.mono ?_
  rintro e w2 ⟨ho, hb2⟩
  have hs2 := hb2.size
  have HB2 := Lib.hid (HB1.out.trans (hb2.mono (by omega)))
  have h22 := (hb2.block (w.heap.size + 1 + 1) (by omega)).trans H12.out
  have x0 := cellN (i := 0) h22 rfl
  have x1 := cellN (i := 1) h22 rfl
  have xf0 := frozN (i := 0) h22
  have xf1 := frozN (i := 1) h22
  have H22 := Lib.hid h22
  clear hb2 h22 n0 n1 n2 n3 n4 n5 e0 e1 e2
  cases res with
  | error x =>
    obtain ⟨no, qs⟩ := x
    obtain ⟨hno, av, rfl, hOW⟩ := ho
    have hno' : (no == 0) = false := by simp [hno]
    have HOW := Lib.hid hOW
    have hRB : av.ownBlock ≠ some (w.heap.size + 1 + 1) := fun e => by have := (hOW.lt _ e).1; omega
    have HRB := Lib.hid hRB
    clear hOW hRB
    go_upto_region 2 with (fail)
    have hF := put2_box H22.out (.int .i64 0) (.slice none 0 0)
    have hB := below_put2 (R := w.heap.size + 1 + 1) HB2.out (by omega) (.int .i64 0) (.slice none 0 0)
    have hO : ((w2.setCell ⟨w.heap.size + 1 + 1, 0, none⟩ (.int .i64 0)).setCell ⟨w.heap.size + 1 + 1, 1, none⟩ (.slice none 0 0)).ownsRow w.heap.size 3 1 av qs.length (qs.map fun p => .int .i64 p) := own_put2 ⟨HOW.out.1, HOW.out.2.imp id fun ⟨g, cp, cur, e, hb, hr⟩ => ⟨g, cp, cur, e, by omega, hr⟩⟩ HRB.out _ _
    generalize ((w2.setCell ⟨w.heap.size + 1 + 1, 0, none⟩ (.int .i64 0)).setCell ⟨w.heap.size + 1 + 1, 1, none⟩ (.slice none 0 0)) = w3 at *
    have q0 := cellN (i := 0) hF rfl
    have q1 := cellN (i := 1) hF rfl
    have qf0 := frozN (i := 0) hF
    have qf1 := frozN (i := 1) hF
    have HB3 := Lib.hid hB
    have HO3 := Lib.hid hO
    clear hF hB hO x0 x1 xf0 xf1
    go_wp2_with (fail)
    refine bodyPost_ret (v := .tuple #[.agg #[.int .i64 0, .slice none 0 0], av, .int .i64 no]) (by simp [results, Tryz.results14, go_sem, q0, q1]) rfl ?_
    exact ⟨⟨hno, av, rfl, own_put2 HO3.out HRB.out _ _⟩, below_put2 HB3.out (by omega) _ _⟩
  | ok t =>
    obtain ⟨v, rfl, hT⟩ := ho
    obtain ⟨A5, k5, rfl⟩ := hT.form
    have hRT := hres t rfl
    have HT := Lib.hid hT
    clear hT
    go_upto_region 4 with (fail)
    have hF := put2_box H22.out (.int .i64 t.kind) (.slice A5 t.args.length k5)
    have hB := below_put2 (R := w.heap.size + 1 + 1) HB2.out (by omega) (.int .i64 t.kind) (.slice A5 t.args.length k5)
    have hfar : ∀ b, b ≠ w.heap.size + 1 + 1 → ((w2.setCell ⟨w.heap.size + 1 + 1, 0, none⟩ (.int .i64 t.kind)).setCell ⟨w.heap.size + 1 + 1, 1, none⟩ (.slice A5 t.args.length k5)).heap[b]? = w2.heap[b]? := fun b hb => put2_far hb _ _
    generalize ((w2.setCell ⟨w.heap.size + 1 + 1, 0, none⟩ (.int .i64 t.kind)).setCell ⟨w.heap.size + 1 + 1, 1, none⟩ (.slice A5 t.args.length k5)) = w3 at *
    have q0 := cellN (i := 0) hF rfl
    have q1 := cellN (i := 1) hF rfl
    have qf0 := frozN (i := 0) hF
    have qf1 := frozN (i := 1) hF
    have HB3 := Lib.hid hB
    have HFAR := Lib.hid hfar
    clear hF hB hfar x0 x1 xf0 xf1
    by_cases h7 : t.kind = 7
    · obtain ⟨a, ha, _⟩ := hRT.arg h7
      have h7' : (t.kind != 7) = false := by simp [h7]
      have HE : Hid (emiR (.ok t) = .ok a) := Lib.hid (by show (if t.kind = 7 then _ else _) = _; rw [if_pos h7, ha]; rfl)
      obtain ⟨dd, hdd, hAR⟩ := ty_args HT.out
      obtain ⟨ab, ao, hA5, hab, habs⟩ := hAR (by simp [ha])
      obtain ⟨ua, ub, ha0, ha1, hTa⟩ := habs 0 a (by rw [ha]; rfl)
      obtain ⟨Aa, ka, rfl, rfl⟩ := ty_parts hTa
      subst hA5
      have hab : w1.heap.size ≤ ab := hab
      have habR : ab ≠ w.heap.size + 1 + 1 := by omega
      have ha0 : w3.cell? ⟨ab, ao, none⟩ = some (.int .i64 a.kind) := (World.cell?_of_block (HFAR.out ab habR)).trans (by simpa using ha0)
      have ha1 : w3.cell? ⟨ab, ao + 1, none⟩ = some (.slice Aa a.args.length ka) := (World.cell?_of_block (HFAR.out ab habR)).trans (by simpa using ha1)
      have hlaN : 0 < t.args.length := by simp [ha]
      have hlaE : ¬ t.args = [] := by simp [ha]
      have hla : (0 : Int) < (t.args.length : Int) := by simp [ha]
      have HTa := Lib.hid hTa
      clear hRT h7 ha hAR habs hTa hdd
      go_wp2_with (fail)
      refine bodyPost_ret (v := .tuple #[.agg #[.int .i64 a.kind, .slice Aa a.args.length ka], .slice none 0 0, .int .i64 0]) (by simp [results, Tryz.results14, go_sem, q0, q1]) rfl ?_
      rw [HE.out]
      exact ⟨⟨_, dd, rfl, HTa.out.move fun b hb hl => ⟨by have hb : w1.heap.size ≤ b := hb; show w.heap.size ≤ b; omega, fun _ => World.cell?_of_block (by
        have hb : w1.heap.size ≤ b := hb
        have hbR : b ≠ w.heap.size + 1 + 1 := by omega
        exact (put2_far hbR _ _).trans (HFAR.out b hbR))⟩⟩, below_put2 HB3.out (by omega) _ _⟩
    · have h7' : (t.kind != 7) = true := by simp [h7]
      have HE : Hid (emiR (.ok t) = .error (50, [])) := Lib.hid (by show (if t.kind = 7 then _ else _) = _; rw [if_neg h7])
      clear h7 hRT
      go_wp2_with (fail)
      refine bodyPost_ret (v := .tuple #[.agg #[.int .i64 0, .slice none 0 0], .slice none 0 0, .int .i64 50]) (by simp [results, Tryz.results14, go_sem, q0, q1]) rfl ?_
      rw [HE.out]
      exact ⟨⟨by decide, .slice none 0 0, rfl, World.ownsRow_nil _ _ _ _⟩, below_put2 HB3.out (by omega) _ _⟩
end Go.Proofs.YtaecndmncpfpfaaGreatDoor
