/-
Merge of the program.
-/
import Derived.Test.YtpkieiahhkgjoaaDoorSp
import Derived.WalkSmall
import Derived.Deep.RegionLaw
import Derived.Test.YtpkieiahhkgjoaaDoorVe
set_option linter.unusedVariables false
namespace Go.Proofs.YtpkieiahhkgjoaaDoor
open Go.RowKit

theorem merge_bad (B : Nat) (v : Value) (l : List Wn) (w : World) (h : WsAt w B v l) (hl : l.length ≤ 2000000) (hb : ∃ x ∈ l, ¬ GdW x) :
    Calls Tryd.prog 7 #[v] w fun e w' => e = .returned (.tuple #[.slice none 0 0, .int .i64 70]) ∧ Below w.heap.size w w' := by
  have H := Lib.hid (sort_bad B v l w h hl hb)
  clear h hb
  go_enter Tryd.func7, Tryd.ntmps7
  go_wp2_with (go_at_call 12; refine H.out.mono ?_; rintro e w2 ⟨rfl, hb2⟩)
  go_ret2
  exact ⟨rfl, hb2⟩

theorem push_len : ∀ (st : List Wn) (x : Wn), (pushW st x).length ≤ st.length + 1
  | [], x => by simp [pushW]
  | t :: r, x => by
    unfold pushW
    split
    · have := push_len r (if x.1 ≤ t.1 then x.1 else t.1, x.2); simp; omega
    · simp

theorem mrgR_snoc (st l : List Wn) (x : Wn) : mrgR st (l ++ [x]) = pushW (mrgR st l) x := by simp [mrgR]

theorem set_two {w : World} {X : Nat} {a b : Value} {t : TypeId} (h : w.heap[X]? = some (.cells #[a, b] t (0, 0))) (c : Value) : (w.drew.setCell ⟨X, 0, none⟩ c).heap[X]? = some (.cells #[c, b] t (0, 0)) := by
  have h2 : w.drew.heap[X]? = some (.cells #[a, b] t (0, 0)) := h
  simp [World.setCell, Array.getElem?_modify, h2]

theorem set_grown (w : World) (X : Nat) (c : Value) : w.grownBy (w.drew.setCell ⟨X, 0, none⟩ c) (some X) :=
  ⟨rfl, rfl, rfl, by simp [World.setCell], fun k _ hk => Below.heap_setCell w.drew _ c k (fun e => hk (by rw [e]))⟩

/-- The merged slice, as a stack: the last one stands first. -/
def StAt (w : World) (B : Nat) (v : Value) (st : List Wn) : Prop := w.ownsRow B 33 2 v st.length (flat st.reverse)

set_option maxRecDepth 100000 in
set_option maxHeartbeats 4000000 in
theorem merge_ok (B : Nat) (v : Value) (l : List Wn) (w : World) (h : WsAt w B v l) (hp : Prp v) (hl : l.length ≤ 2000000) (hg : ∀ x ∈ l, GdW x) :
    Calls Tryd.prog 7 #[v] w fun e w' => (∃ u, e = .returned (.tuple #[u, .int .i64 0]) ∧ WsAt w' w.heap.size u (mrg l) ∧ Prp u) ∧ Below w.heap.size w w' := by
  obtain ⟨i0, hi, hq0, hq1, hq2⟩ := info_parts Tryd.infoW
  have H := Lib.hid (sort_ok B v l w h hp hl hg)
  clear h hp hg
  go_enter Tryd.func7, Tryd.ntmps7
  go_wp2_with (go_at_call 12; refine H.out.mono ?_; rintro e w2 ⟨⟨sa, sc, rfl, hsl⟩, hb2⟩)
  have hsn : (srt l).length = l.length := (srt_perm l).length_eq
  have HM : Hid (mrg l = (mrgR [] (srt l)).reverse) := Lib.hid rfl
  obtain ⟨s, hs⟩ : ∃ s, s = srt l := ⟨_, rfl⟩
  rw [← hs] at hsl hsn HM
  clear hs
  have HB2 := Lib.hid hb2
  rw [← hsn] at hl ⊢
  obtain ⟨sa', sc', hse, hlc, hA⟩ := hsl
  rw [← hsn] at hse
  injection hse with h1 h2 h3
  subst h1; subst h3
  have HA := Lib.hid hA
  clear hA hsn hb2
  have hwz := HB2.out.size
  go_loopw [6, 19] (fun mv iv wr => ∃ (j : Nat), iv = .int .i64 (j : Int) ∧ j ≤ s.length ∧ (mrgR [] (s.take j)).length ≤ j ∧ Hid (StAt wr w2.heap.size mv (mrgR [] (s.take j))) ∧ Hid (Below w2.heap.size w2 wr)) (fun _ iv _ => s.length - (intOf iv).toNat)
  case atStart => exact ⟨0, rfl, Nat.zero_le _, by simp [mrgR], Lib.hid (World.ownsRow_nil _ _ _ _), Lib.hid (Below.refl _ _)⟩
  case round =>
    obtain ⟨j, rfl, hj, hjl, HO, HB⟩ := hrel
    obtain ⟨mv, rfl⟩ : ∃ mv : Value, mv = u6 := ⟨_, rfl⟩
    have hsr := HB.out.size
    by_cases hlt : j < s.length
    · obtain ⟨b, o, rfl, hb1, hb2, hcells⟩ := HA.out (by omega)
      obtain ⟨c0, c1⟩ := ws_cells hcells hlt
      have HT : Hid (mrgR [] (s.take (j + 1)) = pushW (mrgR [] (s.take j)) s[j]) := Lib.hid (by rw [List.take_succ_eq_append_getElem hlt, mrgR_snoc])
      have c0 := (HB.out.cell (p := ⟨b, o + j * 2, none⟩) hb2).trans c0
      have c1 := (HB.out.cell (p := ⟨b, o + j * 2 + 1, none⟩) hb2).trans c1
      clear hcells
      generalize s[j] = x at *
      obtain ⟨x1, x2⟩ := x
      dsimp only at c0 c1
      generalize mrgR [] (s.take j) = st0 at *
      have hst0 : st0.length ≤ 2000000 := by omega
      obtain ⟨Av, cv, rfl⟩ := own_slice HO.out
      go_wp2
      have hbox := heap_alloc_new wr (.cells #[.int .i64 x1, .int .i64 x2] 33)
      have hBW : Below w2.heap.size w2 (wr.alloc (.cells #[.int .i64 x1, .int .i64 x2] 33)) := HB.out.alloc HB.out.size _
      have HO1 : Hid (StAt (wr.alloc (.cells #[.int .i64 x1, .int .i64 x2] 33)) w2.heap.size (.slice Av st0.length cv) st0) := Lib.hid (World.ownsRow.alloc HO.out _)
      have hown : ∀ k, (Value.slice Av st0.length cv).ownBlock = some k → k < wr.heap.size := fun k hk => (HO.out.lt k hk).2
      have hWs : (wr.alloc (.cells #[.int .i64 x1, .int .i64 x2] 33)).heap.size = wr.heap.size + 1 := by simp
      obtain ⟨X, hX⟩ : ∃ X, X = wr.heap.size := ⟨_, rfl⟩
      rw [← hX] at hbox hown hWs ⊢
      have hX2 : w2.heap.size ≤ X := by omega
      generalize wr.alloc (.cells #[.int .i64 x1, .int .i64 x2] 33) = W at *
      have HBOX := Lib.hid hbox
      have HBW := Lib.hid hBW
      have HOWN := Lib.hid hown
      obtain ⟨wo, hwo⟩ : ∃ wo : World, wo = wr := ⟨_, rfl⟩
      subst hwo
      clear hbox hBW hX hown c0 c1
      go_loopw [6] (fun mw wq => ∃ (st : List Wn) (f : Int), slLen mw = st.length ∧ st.length ≤ st0.length ∧ Hid (StAt wq w2.heap.size mw st) ∧ Hid (wq.heap[X]? = some (.cells #[.int .i64 f, .int .i64 x2] 33 (0, 0))) ∧ Hid (pushW st (f, x2) = pushW st0 (x1, x2)) ∧ Hid (Below w2.heap.size w2 wq) ∧ Hid (∀ k, mw.ownBlock = some k → k < X)) (fun mw _ => slLen mw)
      case atStart => exact ⟨st0, x1, rfl, Nat.le_refl _, HO1, HBOX, Lib.hid rfl, HBW, HOWN⟩
      case round =>
        obtain ⟨st, f, hsl, hstl, HS, HX, HPU, HBQ, HOW⟩ := hrel
        obtain ⟨mw, rfl⟩ : ∃ mw : Value, mw = u6 := ⟨_, rfl⟩
        have k0 := cell2_0 HX.out
        have k1 := cell2_1 HX.out
        have kf := cells_f HX.out 0
        have hXq := cell_lt HX.out
        have hjj : st0.length ≤ j := hjl
        have hstm : st.length ≤ 2000000 := by omega
        cases st with
        | nil =>
          obtain ⟨A, c, rfl⟩ := own_slice HS.out
          go_wp2
          go_quiet (fail)
          go_wp2_with (at_builtin; refine wpList_append_own _ rfl _ _ 28 rfl w2.heap.size 33 i0 (.agg #[.int .i64 0, .int .i64 0]) 2 16 Tryd.underlying28 hi hq0 hq1 hq2 rfl (by decide) _ _ (flat (([] : List Wn)).reverse) rfl (World.ownsRow.alloc (show (wr.drewN nq).ownsRow _ _ _ _ _ _ from HS.out) _) ⟨wr.heap.size, 0, none⟩ 1 1 [.int .i64 f, .int .i64 x2] rfl rfl (cell_two_new _ _ _ _ _ rfl) (two_one _ _) (Nat.le_trans (Nat.succ_le_succ hstm) (by unfold maxLen; omega)) (Nat.le_trans (Nat.mul_le_mul_right 16 (Nat.succ_le_succ hstm)) (by omega)) (by simp <;> omega) ?_; intro v' w7 hown7 hg7 _)
          have HB7 : Below w2.heap.size w2 w7 := ((below_drewN HBQ.out nq).alloc (by have := HBQ.out.size; exact this) _).grown hg7 (by have := HBQ.out.size; simp <;> omega) fun k hk => (HS.out.lt k hk).1
          have HST : Hid (mrgR [] (s.take (j + 1)) = (f, x2) :: ([] : List Wn)) := Lib.hid (by rw [HT.out, ← HPU.out]; rfl)
          have HO7 : Hid (StAt w7 w2.heap.size v' ((f, x2) :: ([] : List Wn))) := Lib.hid (by
            unfold StAt
            rw [List.reverse_cons, flat_snoc]
            exact hown7)
          clear hown7 hg7
          go_roundw
          case rel => exact ⟨j + 1, by go_num, by omega, by rw [HST.out]; exact Nat.succ_le_succ (Nat.le_trans hstl hjj), by rw [HST.out]; exact HO7, Lib.hid HB7⟩
          case measure => simp [intOf]; omega
        | cons t r =>
          have hws := WsAt.own (l := (t :: r).reverse) (by rw [List.length_reverse]; exact HS.out)
          obtain ⟨g, cap, hmw, _, hgl, hgc⟩ := own_form HS.out (by simp)
          subst hmw
          obtain ⟨a', c', hv', _, hA'⟩ := hws
          rw [List.length_reverse] at hv'
          injection hv' with e1 e2 e3
          subst e1; subst e3
          obtain ⟨b', o', hbo, _, _, hcells'⟩ := hA' (by simp)
          injection hbo with hbo
          injection hbo with hbo1 hbo2
          subst hbo1; subst hbo2
          obtain ⟨d0, d1⟩ := hcells' r.length t (by simp)
          rw [Nat.zero_add] at d0 d1
          obtain ⟨t1, t2⟩ := t
          dsimp only at d0 d1
          have hr0 : r.length + 1 ≤ st0.length := by simpa using hstl
          simp only [List.length_cons] at hgc ⊢
          have q6 : IntKind.i64.wrap ((r.length : Int) + 1 - 1) = (r.length : Int) := by rw [IntWalk.i64_in _ (by omega)]; omega
          have q7 : IntKind.i64.wrap (r.length : Int) = (r.length : Int) := IntWalk.i64_in _ (by omega)
          have hi0 : (0 : Int) ≤ (r.length : Int) := by omega
          have hi1 : (r.length : Int) < (r.length : Int) + 1 := by omega
          have hi2 : decide ((0 : Int) < (r.length : Int) + 1) = true := decide_eq_true (by omega)
          have hi3 : (0 : Int) < (r.length : Int) + 1 := by omega
          have hi4 : (r.length : Int) ≤ (cap : Int) := by omega
          have hgX : g < X := HOW.out g rfl
          clear hA' hcells'
          by_cases hft : f < t2
          · have hd : decide (f < t2) = true := decide_eq_true hft
            go_wp2
            go_quiet (fail)
            go_wp2
            have d0 : (wr.drewN nq).cell? ⟨g, r.length * 2, none⟩ = some (.int .i64 t1) := d0
            have k0 : (wr.drewN nq).cell? ⟨X, 0, none⟩ = some (.int .i64 f) := k0
            have kf : (wr.drewN nq).frozen? ⟨X, 0, none⟩ = false := kf
            have HX2 : Hid ((wr.drewN nq).heap[X]? = some (.cells #[.int .i64 f, .int .i64 x2] 33 (0, 0))) := HX
            have HS2 : Hid (StAt (wr.drewN nq) w2.heap.size (.slice (some ⟨g, 0, none⟩) (r.length + 1) cap) ((t1, t2) :: r)) := HS
            have HBQ2 : Hid (Below w2.heap.size w2 (wr.drewN nq)) := Lib.hid (below_drewN HBQ.out nq)
            have hXq2 : X < (wr.drewN nq).heap.size := hXq
            have HMN : Hid (pushW ((t1, t2) :: r) (f, x2) = pushW r (min f t1, x2)) := Lib.hid (by
              show (if f < t2 then _ else _) = _
              rw [if_pos hft, Int.min_def])
            clear hft d1 k1
            generalize wr.drewN nq = W2 at *
            have HX3 : Hid ((W2.drew.setCell ⟨X, 0, none⟩ (.int .i64 (min f t1))).heap[X]? = some (.cells #[.int .i64 (min f t1), .int .i64 x2] 33 (0, 0))) := Lib.hid (set_two HX2.out _)
            have HB3 : Hid (Below w2.heap.size w2 (W2.drew.setCell ⟨X, 0, none⟩ (.int .i64 (min f t1)))) := Lib.hid ((below_drew_some HBQ2.out).setCell hX2 _)
            have HS3 : Hid (StAt (W2.drew.setCell ⟨X, 0, none⟩ (.int .i64 (min f t1))) w2.heap.size (.slice (some ⟨g, 0, none⟩) r.length cap) r) := Lib.hid (by
              have h1 := HS2.out
              unfold StAt at h1 ⊢
              rw [List.reverse_cons, flat_snoc] at h1
              have h2 := ownsRow_pop (n := r.length) (by rw [flat_length, List.length_reverse]) h1
              exact h2.kept (row := some X) (set_grown W2 X _) (.inr (by simp [Value.ownBlock]; omega)))
            go_region_law (fail)
            all_goals
              go_wp2
              go_roundw
              case rel => exact ⟨r, min f t1, rfl, by omega, HS3, HX3, Lib.hid (by rw [← HMN.out]; exact HPU.out), HB3, Lib.hid fun k hk => by simp [Value.ownBlock] at hk; omega⟩
              case measure => simp [slLen]
          · have hd : decide (f < t2) = false := decide_eq_false hft
            have HPF : Hid (pushW ((t1, t2) :: r) (f, x2) = (f, x2) :: (t1, t2) :: r) := Lib.hid (by show (if f < t2 then _ else _) = _; rw [if_neg hft])
            clear hft
            go_wp2
            go_quiet (fail)
            go_wp2_with (at_builtin; refine wpList_append_own _ rfl _ _ 28 rfl w2.heap.size 33 i0 (.agg #[.int .i64 0, .int .i64 0]) 2 16 Tryd.underlying28 hi hq0 hq1 hq2 rfl (by decide) _ _ (flat (((t1, t2) :: r)).reverse) rfl (World.ownsRow.alloc (show (wr.drewN nq).ownsRow _ _ _ _ _ _ from HS.out) _) ⟨wr.heap.size, 0, none⟩ 1 1 [.int .i64 f, .int .i64 x2] rfl rfl (cell_two_new _ _ _ _ _ rfl) (two_one _ _) (Nat.le_trans (Nat.succ_le_succ hstm) (by unfold maxLen; omega)) (Nat.le_trans (Nat.mul_le_mul_right 16 (Nat.succ_le_succ hstm)) (by omega)) (by simp <;> omega) ?_; intro v' w7 hown7 hg7 _)
            have HB7 : Below w2.heap.size w2 w7 := ((below_drewN HBQ.out nq).alloc (by have := HBQ.out.size; exact this) _).grown hg7 (by have := HBQ.out.size; simp <;> omega) fun k hk => (HS.out.lt k hk).1
            have HST : Hid (mrgR [] (s.take (j + 1)) = (f, x2) :: ((t1, t2) :: r)) := Lib.hid (by rw [HT.out, ← HPU.out]; exact HPF.out)
            have HO7 : Hid (StAt w7 w2.heap.size v' ((f, x2) :: ((t1, t2) :: r))) := Lib.hid (by
              unfold StAt
              rw [List.reverse_cons, flat_snoc]
              exact hown7)
            clear hown7 hg7
            go_roundw
            case rel => exact ⟨j + 1, by go_num, by omega, by rw [HST.out]; exact Nat.succ_le_succ (Nat.le_trans hstl hjj), by rw [HST.out]; exact HO7, Lib.hid HB7⟩
            case measure => simp [intOf]; omega
    · obtain rfl : j = s.length := by omega
      rw [List.take_length] at HO
      go_wp2
      go_ret2
      refine ⟨⟨_, rfl, ?_, ?_⟩, HB2.out.trans (HB.out.mono hwz)⟩
      · rw [HM.out]
        have ho := HO.out
        unfold StAt at ho
        have := WsAt.own (l := (mrgR [] s).reverse) (by rw [List.length_reverse]; exact ho)
        exact this.low hwz
      · intro n c e
        rcases HO.out.2 with ⟨h1, _⟩ | ⟨g', cap', cur, h1, _⟩
        · exact h1
        · rw [h1] at e; cases e

end Go.Proofs.YtpkieiahhkgjoaaDoor
