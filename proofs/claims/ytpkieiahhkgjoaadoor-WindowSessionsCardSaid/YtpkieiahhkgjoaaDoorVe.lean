/-
ending: the windows that have a time.
-/
import Derived.Test.YtpkieiahhkgjoaaDoorVr
import Derived.Test.YtpkieiahhkgjoaaDoorVs
import Derived.Test.YtpkieiahhkgjoaaDoorShl
set_option linter.unusedVariables false
namespace Go.Proofs.YtpkieiahhkgjoaaDoor
open Go.RowKit
open Go.Sort (ahead putRow putRowK HoldsK holdsK_putRowK holdsK_ahead size_putRow)

/-- A scope that is entered four statements ahead of the one label that its jumps go to. -/
theorem wp_scope_enter4 {P : Program} {a : Act} {w : World} {Q : Exit → Act → World → Prop} {p1 p2 p3 p4 rest : Code} {l : Nat} (J : Act → World → Prop) (μ : Act → World → Nat)
    (hf : findLabel (p1.seq (p2.seq (p3.seq (p4.seq ((Code.label l).seq rest))))) l = some (Code.skip.seq rest))
    (first : p1.wp P (Exit.then (fun a w => p2.wp P (Exit.then (fun a w => p3.wp P (Exit.then (fun a w => p4.wp P (Exit.then J fun _ _ _ => False) a w) fun _ _ _ => False) a w) fun _ _ _ => False) a w) fun _ _ _ => False) a w)
    (pass : ∀ a w, J a w → rest.wp P (Exit.jump l (fun a' w' => J a' w' ∧ μ a' w' < μ a w) Q) a w) : (Code.scope (p1.seq (p2.seq (p3.seq (p4.seq ((Code.label l).seq rest)))))).wp P Q a w := by
  refine wp_scope_jumps l J μ hf ?_ (fun a w hJ => wp_seq (wp_skip (pass a w hJ)))
  refine wp_seq (wp_mono first fun e a1 w1 h => ?_)
  cases e with
  | normal =>
    refine wp_seq (wp_mono h fun e a1 w1 h => ?_)
    cases e with
    | normal =>
      refine wp_seq (wp_mono h fun e a1 w1 h => ?_)
      cases e with
      | normal =>
        refine wp_seq (wp_mono h fun e a1 w1 h => ?_)
        cases e with
        | normal =>
          refine wp_seq (wp_label ?_)
          refine wp_mono (pass a1 w1 h) fun e a2 w2 h2 => ?_
          cases e with
          | goto l' => exact ⟨h2.1, h2.2.1⟩
          | _ => exact h2
        | _ => exact h.elim
      | _ => exact h.elim
    | _ => exact h.elim
  | _ => exact h.elim

def slLen : Value → Nat
  | .slice _ n _ => n
  | _ => 0

theorem tmod_pos {x d : Int} (h : 0 ≤ x) : x.tmod d = x % d := Int.tmod_eq_emod_of_nonneg h

theorem tmod_neg0 {x d : Int} (hd : 1 ≤ d) (h : x % d = 0) : x.tmod d = 0 := Int.tmod_eq_zero_of_dvd (Int.dvd_of_emod_eq_zero h)

theorem tmod_neg1 {x d : Int} (hd : 1 ≤ d) (hx : x < 0) (h : x % d ≠ 0) : x.tmod d = x % d - d := by
  rw [Int.tmod_eq_emod]
  have h1 : ¬ (0 ≤ x ∨ d ∣ x) := by
    rintro (h1 | h1)
    · omega
    · exact h (Int.emod_eq_zero_of_dvd h1)
  rw [if_neg h1]
  omega

theorem fro_snoc (c d s : Int) (j : Nat) : ap c d s (j + 1) = ap c d s j ++ [(c + d * (j : Int), c + d * (j : Int) + s)] := ap_succ c d s j

set_option maxRecDepth 100000 in
set_option maxHeartbeats 1000000 in
theorem ending_any (o d s t : Int) (w : World) (hd : 1 ≤ d) (hs : d ≤ s) (hs2 : s ≤ 1048576) (ho : 0 ≤ o) (ho2 : o < d) (ht : 0 ≤ t) (ht2 : t ≤ 1048576) :
    Calls Tryd.prog 14 #[.int .i64 t, .int .i64 s, .int .i64 d, .int .i64 o] w fun e w' => (∃ v, e = .returned v ∧ WsAt w' w.heap.size v (ap (fstA o d s t) d s (numA o d s t))) ∧ Below w.heap.size w w' := by
  obtain ⟨i0, hi, hq0, hq1, hq2⟩ := info_parts Tryd.infoW
  have hnl := numA_le o d s t hd hs
  have hnp := numA_pos o d s t
  have hp0 := Int.emod_nonneg (t - o) (show d ≠ 0 by omega)
  have hp1 := Int.emod_lt_of_pos (t - o) (show 0 < d by omega)
  obtain ⟨c, hc⟩ : ∃ c, c = t - (t - o) % d := ⟨_, rfl⟩
  have HC := Lib.hid hc
  have hc1 : c ≤ t := by omega
  have hc2 : t - d < c := by omega
  have HN := fun (j : Nat) => Lib.hid (show t < c + -d * (j : Int) + s ↔ j < numA o d s t by rw [hc]; exact down_iff o d s t hd hs j)
  have HL := Lib.hid (show fstA o d s t + d * ((numA o d s t : Int) - 1) = c by rw [hc]; exact last_eq o d s t hd hs)
  generalize numA o d s t = n at *
  clear hc
  go_enter Tryd.func14, Tryd.ntmps14
  go_wp2
  refine wp_scope_enter4 (fun a' w' => ∃ (j : Nat) (v : Value) (f : Int) (U10 : Value) (u12 u13 u14 u15 u16 u17 u18 u19 u20 u21 u22 u23 u24 u25 u26 u27 u28 u29 u30 u31 u32 u33 u34 u35 u36 u37 u38 u39 u40 u41 u42 u43 : Value) , a' = { tmps := #[.int .i64 t, .int .i64 s, .int .i64 d, .int .i64 o, undef, undef, undef, undef, .slice none 0 0, v, U10, .int .i64 f, u12, u13, u14, u15, u16, u17, u18, u19, u20, u21, u22, u23, u24, u25, u26, u27, u28, u29, u30, u31, u32, u33, u34, u35, u36, u37, u38, u39, u40, u41, u42, u43], defers := [] } ∧ j ≤ n ∧ t - s - d < f ∧ f ≤ t ∧ Hid (f = c + -d * (j : Int)) ∧ Hid (w'.ownsRow w.heap.size 33 2 v j (flat (ap c (-d) s j))) ∧ Hid (Below w.heap.size w w')) (fun a' _ => n - slLen (a'.tmps.getD 9 undef)) ?hf ?first ?pass
  case hf => rfl
  case first =>
    rcases Int.lt_or_le (t - o) 0 with hx | hx
    · by_cases hz : (t - o) % d = 0
      · have hm : (t - o).tmod d = 0 := tmod_neg0 hd hz
        have HZ := Lib.hid hz
        clear hz
        go_wp2_with (fail)
        refine ⟨0, _, _, _, _, _, _, _, _, _, _, _, _, _, _, _, _, _, _, _, _, _, _, _, _, _, _, _, _, _, _, _, _, _, _, _, rfl, Nat.zero_le _, by omega, by omega, Lib.hid ?_, Lib.hid (World.ownsRow_nil _ _ _ _), Lib.hid (Below.refl _ _)⟩
        have h1 := HZ.out; have h2 := HC.out; simp only [Int.ofNat_zero, Int.mul_zero]; omega
      · have hm : (t - o).tmod d = (t - o) % d - d := tmod_neg1 hd hx hz
        have HZ := Lib.hid hz
        clear hz
        have hp3 : 0 ≤ (t - o) % d - d + d := by omega
        obtain ⟨q, hq⟩ : ∃ q, q = (t - o) % d - d := ⟨_, rfl⟩
        rw [← hq] at hm
        have hq1 : q < 0 := by omega
        have hq2 : -d ≤ q := by omega
        have HQ := Lib.hid hq
        clear hq hp3
        go_wp2_with (fail)
        refine ⟨0, _, _, _, _, _, _, _, _, _, _, _, _, _, _, _, _, _, _, _, _, _, _, _, _, _, _, _, _, _, _, _, _, _, _, _, rfl, Nat.zero_le _, by omega, by omega, Lib.hid ?_, Lib.hid (World.ownsRow_nil _ _ _ _), Lib.hid (Below.refl _ _)⟩
        have h1 := HQ.out; have h2 := HC.out; simp only [Int.ofNat_zero, Int.mul_zero]; omega
    · have hm : (t - o).tmod d = (t - o) % d := tmod_pos hx
      obtain ⟨q, hq⟩ : ∃ q, q = (t - o) % d := ⟨_, rfl⟩
      rw [← hq] at hm
      have hq1 : 0 ≤ q := by omega
      have hq2 : q < d := by omega
      have HQ := Lib.hid hq
      clear hq
      go_wp2_with (fail)
      refine ⟨0, _, _, _, _, _, _, _, _, _, _, _, _, _, _, _, _, _, _, _, _, _, _, _, _, _, _, _, _, _, _, _, _, _, _, _, rfl, Nat.zero_le _, by omega, by omega, Lib.hid ?_, Lib.hid (World.ownsRow_nil _ _ _ _), Lib.hid (Below.refl _ _)⟩
      have h1 := HQ.out; have h2 := HC.out; simp only [Int.ofNat_zero, Int.mul_zero]; omega
  case pass =>
    rintro a' wr ⟨j, v, f, u10, u12, u13, u14, u15, u16, u17, u18, u19, u20, u21, u22, u23, u24, u25, u26, u27, u28, u29, u30, u31, u32, u33, u34, u35, u36, u37, u38, u39, u40, u41, u42, u43, rfl, hj, hf1, hf2, HF, HO, HB⟩
    obtain ⟨Av, cv, rfl⟩ := own_slice HO.out
    have hsr := HB.out.size
    by_cases hlt : j < n
    · have h3 : t < f + s := by rw [HF.out]; exact (HN j).out.2 hlt
      have hd3 : decide (t < f + s) = true := decide_eq_true h3
      go_wp2_with (at_builtin; refine wpList_append_own _ rfl _ _ 28 rfl w.heap.size 33 i0 (.agg #[.int .i64 0, .int .i64 0]) 2 16 Tryd.underlying28 hi hq0 hq1 hq2 rfl (by decide) _ j (flat (ap c (-d) s j)) rfl (HO.out.alloc _) ⟨wr.heap.size, 0, none⟩ 1 1 [.int .i64 f, .int .i64 (f + s)] rfl rfl (cell_two_new _ _ _ _ _ rfl) (two_one _ _) (by unfold maxLen; omega) (by omega) (by simp; omega) ?_; intro v' w7 hown7 hg7 _)
      obtain ⟨A7, c7, rfl⟩ := own_slice hown7
      go_step3
      refine ⟨rfl, ⟨j + 1, .slice A7 (j + 1) c7, _, _, _, _, _, _, _, _, _, _, _, _, _, _, _, _, _, _, _, _, _, _, _, _, _, _, _, _, _, _, _, _, _, _, rfl, by omega, by omega, by omega, Lib.hid ?_, Lib.hid ?_, Lib.hid ?_⟩, ?_⟩
      · have := HF.out; rw [Int.natCast_add, Int.mul_add]; omega
      · rw [ap_succ, flat_snoc, ← HF.out]; exact hown7
      · exact (HB.out.alloc (by omega) _).grown hg7 (by simp; omega) fun k hk => by have := (HO.out.lt k hk).1; omega
      · simp [slLen]; omega
    · have h3 : ¬ t < f + s := by rw [HF.out]; intro h; exact hlt ((HN j).out.1 h)
      obtain rfl : j = n := by omega
      obtain ⟨g, cap, hv, hg1, hg2, hg3⟩ := own_form HO.out (by omega)
      injection hv with hv1 hv2 hv3
      subst hv1
      subst hv3
      have hlen : (ap c (-d) s j).length = j := ap_length _ _ _ _
      have HO2 : wr.ownsRow w.heap.size 33 2 (.slice (some ⟨g, 0, none⟩) (ap c (-d) s j).length cv) (ap c (-d) s j).length (flat (ap c (-d) s j)) := by rw [hlen]; exact HO.out
      have hH := holdsK_own HO2
      have hcon := AnyQ.slices_Reverse Tryd.reverseW 2 Tryd.isAgg33 Tryd.sizeOf33 encW encW_len encW_one g 0 cv (ap c (-d) s j).toArray wr hH (by simp [hlen]; omega)
      have hrev : (ap c (-d) s j).toArray.reverse = (ap (fstA o d s t) d s j).toArray := by
        rw [List.reverse_toArray, ← HL.out, ap_reverse]
      rw [hrev] at hcon
      have hcon2 : Calls Tryd.prog 19 #[.slice (some ⟨g, 0, none⟩) j cv] wr fun e w' => e = .returned (.tuple #[]) ∧ Hid (WsAt w' w.heap.size (.slice (some ⟨g, 0, none⟩) j cv) (ap (fstA o d s t) d s j)) ∧ Hid (Below w.heap.size w w') := by
        have hs0 : (ap c (-d) s j).toArray.size = j := by simp [hlen]
        rw [hs0] at hcon
        refine hcon.mono fun e w' ⟨he, nn, hw⟩ => ⟨he, Lib.hid ?_, Lib.hid ?_⟩
        · rw [hw]
          have hH2 := holdsK_putRowK encW 2 (Sort.ahead wr nn) g 0 _ (ap (fstA o d s t) d s j).toArray (holdsK_ahead encW 2 wr nn g 0 _ hH) (by simp [hlen, ap_length])
          have := ws_of_holdsK (c := cv) hH2 hg1 (by show g < (putRow id _ _ _ _).heap.size; rw [size_putRow]; exact hg2) (by rw [ap_length]; exact hg3)
          rw [ap_length] at this
          exact this
        · rw [hw]; exact below_putRowK HB.out hg1
      have HCON := Lib.hid hcon2
      clear hcon hcon2 hrev hH HO2 hlen
      go_wp2_with (go_at_call 19; refine HCON.out.mono ?_; rintro e w2 ⟨rfl, HW, HB2⟩)
      simp only [Exit.jump]
      go_ret
      exact ⟨⟨_, rfl, HW.out⟩, HB2.out⟩

end Go.Proofs.YtpkieiahhkgjoaaDoor
