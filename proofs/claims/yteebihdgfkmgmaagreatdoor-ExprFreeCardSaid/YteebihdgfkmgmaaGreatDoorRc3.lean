/-
The reader of package expr: readNumber.
-/
import Derived.Test.YteebihdgfkmgmaaGreatDoorRc1
namespace Go.Proofs.YteebihdgfkmgmaaGreatDoor
open Go.RowKit

/-- A scope that is entered five statements ahead of the one label that its jumps go to. -/
theorem wp_scope_enter5 {P : Program} {a : Act} {w : World} {Q : Exit → Act → World → Prop} {p1 p2 p3 p4 p5 rest : Code} {l : Nat} (J : Act → World → Prop) (μ : Act → World → Nat)
    (hf : findLabel (p1.seq (p2.seq (p3.seq (p4.seq (p5.seq ((Code.label l).seq rest)))))) l = some (Code.skip.seq rest))
    (first : p1.wp P (Exit.then (fun a w => p2.wp P (Exit.then (fun a w => p3.wp P (Exit.then (fun a w => p4.wp P (Exit.then (fun a w => p5.wp P (Exit.then J fun _ _ _ => False) a w) fun _ _ _ => False) a w) fun _ _ _ => False) a w) fun _ _ _ => False) a w) fun _ _ _ => False) a w)
    (pass : ∀ a w, J a w → rest.wp P (Exit.jump l (fun a' w' => J a' w' ∧ μ a' w' < μ a w) Q) a w) : (Code.scope (p1.seq (p2.seq (p3.seq (p4.seq (p5.seq ((Code.label l).seq rest))))))).wp P Q a w := by
  refine wp_scope_jumps l J μ hf ?_ (fun a w hJ => wp_seq (wp_skip (pass a w hJ)))
  refine wp_seq (wp_mono first fun e a1 w1 h => ?_)
  cases e with
  | normal =>
    refine wp_seq (wp_mono h fun e a1 w1 h => ?_)
    cases e with
    | normal =>
      refine wp_seq (wp_mono h fun e a1 w1 h => ?_)
      cases e with
      | normal =>
        refine wp_seq (wp_mono h fun e a1 w1 h => ?_)
        cases e with
        | normal =>
          refine wp_seq (wp_mono h fun e a1 w1 h => ?_)
          cases e with
          | normal =>
            refine wp_seq (wp_label ?_)
            refine wp_mono (pass a1 w1 h) fun e a2 w2 h2 => ?_
            cases e with
            | goto l' => exact ⟨h2.1, h2.2.1⟩
            | _ => exact h2
          | _ => exact h.elim
        | _ => exact h.elim
      | _ => exact h.elim
    | _ => exact h.elim
  | _ => exact h.elim

theorem nm_on {l : List UInt8} {neg : Bool} {m n : Nat} {begun : Bool} : nmF l neg (l.length - m) m n begun = (if isDig (lkB l m) && !barN neg n begun (lkB l m - 48).toNat then nmF l neg (l.length - (m + 1)) (m + 1) (10 * n + (lkB l m - 48).toNat) true else (m, n, begun)) := by
  rcases Nat.lt_or_ge m l.length with h | h
  · rw [show l.length - m = (l.length - (m + 1)) + 1 by omega]
    rfl
  · have h0 : isDig (lkB l m) = false := by rw [lkB_end h]; decide
    rw [show l.length - m = 0 by omega, h0]
    rfl

theorem sub48 (b : UInt8) : IntKind.u8.wrap ((b.toNat : Int) - 48) = ((b - 48).toNat : Int) := by
  have hb := b.toNat_lt
  have h : (b - 48).toNat = (b.toNat + 208) % 256 := by
    rw [UInt8.toNat_sub]
    simp
    omega
  rw [h]
  simp only [IntKind.wrap, IntKind.bits, IntKind.signed]
  simp
  omega

/-- A number's value. -/
def numV (neg : Bool) (n : Nat) : Int := if neg then -(n : Int) else (n : Int)
theorem neg_back (n : Nat) (h : n ≤ 9223372036854775808) : wrap64 (IntKind.u64.wrap (-(n : Int))) = -(n : Int) := by
  simp only [wrap64, IntKind.wrap, IntKind.bits, IntKind.signed]
  simp
  omega
theorem pos_back (n : Nat) (h : n ≤ 9223372036854775807) : wrap64 (n : Int) = (n : Int) := by
  simp only [wrap64]
  omega

/-- What readNumber answers with. -/
def RnOut (R : Nat) (s : ByteArray) (neg : Bool) (w : World) (e : Ending) (w' : World) : Nat × Nat × Bool → Prop
  | (m', n, begun) => e = .returned (.tuple #[.int .i64 (numV neg n), .bool begun]) ∧ Only R w w' ∧ Rdr w' R s m'
def numS (l : List UInt8) (m : Nat) : Nat × Nat × Bool := nmF l (rdB l m 45) (l.length - nx (rdB l m 45) m) (nx (rdB l m 45) m) 0 false

set_option maxRecDepth 100000 in
set_option maxHeartbeats 2000000 in
theorem number_any (R : Nat) (s : ByteArray) (m0 : Nat) (w : World) (h : Rdr w R s m0) :
    Calls Tryz.prog 81 #[.pointer (some ⟨R, 0, none⟩)] w fun e w' => RnOut R s (rdB (bl s) m0 45) w e w' (numS (bl s) m0) := by
  have HR := Lib.hid h
  have hRl := h.lt
  have hlen := h.len
  clear h
  obtain ⟨neg, hneg⟩ : ∃ neg, neg = rdB (bl s) m0 45 := ⟨_, rfl⟩
  obtain ⟨M, hM⟩ : ∃ M, M = mostN neg := ⟨_, rfl⟩
  have HNEG := Lib.hid hneg
  have HM := Lib.hid hM
  have hM1 : 9223372036854775807 ≤ M ∧ M ≤ 9223372036854775808 := by rw [hM]; unfold mostN; split <;> omega
  rw [← hneg]
  clear hneg hM
  go_enter Tryz.func81, Tryz.ntmps81
  go_wp2
  refine wp_scope_enter5 (fun a' w' => ∃ (m n : Nat) (nv : Int) (begun : Bool) (u8 u9 u10 u11 u12 u13 u14 u15 u16 u17 u18 u19 u20 u21 u22 u23 u24 u25 u26 u27 u28 u29 u30 u31 u32 u33 u34 u35 u36 u37 u38 u39 u40 u41 u42 u43 u44 u45 u46 u47 u48 u49 u50 u51 u52 u53 u54 u55 u56 u57 u58 u59 u60 u61 u62 u63 : Value), a' = { tmps := #[.pointer (some ⟨R, 0, none⟩), undef, .int .i64 0, .bool false, .int .u64 (M : Int), .bool neg, .int .u64 nv, .bool begun, u8, u9, u10, u11, u12, u13, u14, u15, u16, u17, u18, u19, u20, u21, u22, u23, u24, u25, u26, u27, u28, u29, u30, u31, u32, u33, u34, u35, u36, u37, u38, u39, u40, u41, u42, u43, u44, u45, u46, u47, u48, u49, u50, u51, u52, u53, u54, u55, u56, u57, u58, u59, u60, u61, u62, u63], defers := [] } ∧ nv = (n : Int) ∧ m ≤ s.size ∧ n ≤ M ∧ Hid (numS (bl s) m0 = nmF (bl s) neg ((bl s).length - m) m n begun) ∧ Hid (Rdr w' R s m) ∧ Hid (Only R w w')) (fun _ w' => s.size - atOf R w') ?hf ?first ?pass
  case hf => rfl
  case first =>
    go_wp2_with (fail)
    refine (readByte_any R s m0 45 w (by decide) HR.out).mono ?_
    rw [← HNEG.out]
    rintro e w2 ⟨rfl, ho, hr⟩
    have HO2 := Lib.hid ho
    have HR2 := Lib.hid hr
    have HS : Hid (numS (bl s) m0 = nmF (bl s) neg ((bl s).length - nx neg m0) (nx neg m0) 0 false) := by show _ = _; unfold numS; rw [← HNEG.out]
    have hle2 := hr.le
    clear ho hr
    cases neg with
    | true =>
      have hMe : M = 9223372036854775808 := HM.out
      subst hMe
      go_wp2_with (fail)
      exact ⟨_, 0, _, false, _, _, _, _, _, _, _, _, _, _, _, _, _, _, _, _, _, _, _, _, _, _, _, _, _, _, _, _, _, _, _, _, _, _, _, _, _, _, _, _, _, _, _, _, _, _, _, _, _, _, _, _, _, _, _, _, rfl, rfl, hle2, Nat.zero_le _, HS, HR2, HO2⟩
    | false =>
      have hMe : M = 9223372036854775807 := HM.out
      subst hMe
      go_wp2_with (fail)
      exact ⟨_, 0, _, false, _, _, _, _, _, _, _, _, _, _, _, _, _, _, _, _, _, _, _, _, _, _, _, _, _, _, _, _, _, _, _, _, _, _, _, _, _, _, _, _, _, _, _, _, _, _, _, _, _, _, _, _, _, _, _, _, rfl, rfl, hle2, Nat.zero_le _, HS, HR2, HO2⟩
  case pass =>
    rintro a' wr ⟨m, n, nv, begun, u8, u9, u10, u11, u12, u13, u14, u15, u16, u17, u18, u19, u20, u21, u22, u23, u24, u25, u26, u27, u28, u29, u30, u31, u32, u33, u34, u35, u36, u37, u38, u39, u40, u41, u42, u43, u44, u45, u46, u47, u48, u49, u50, u51, u52, u53, u54, u55, u56, u57, u58, u59, u60, u61, u62, u63, rfl, rfl, hm, hn, HS, HR1, HO1⟩
    go_wp2_with (fail)
    refine (look_any R s m wr HR1.out).mono ?_
    rintro e w2 ⟨rfl, hb⟩
    have HR2 := Lib.hid (HR1.out.below hb)
    have c1 := cell2_1 HR2.out.box
    have f1 := cell3_f HR2.out.box 1
    have hlt := HR2.out.lt
    have HO2 := Lib.hid (HO1.out.trans (Only.of_below hb))
    have HAT := Lib.hid (at_of HR1.out)
    have HST : Hid (numS (bl s) m0 = (if isDig (lkB (bl s) m) && !barN neg n begun (lkB (bl s) m - 48).toNat then nmF (bl s) neg ((bl s).length - (m + 1)) (m + 1) (10 * n + (lkB (bl s) m - 48).toNat) true else (m, n, begun))) := by show _ = _; rw [HS.out]; exact nm_on
    have hlk : lkB (bl s) m ≠ 0 → m < s.size := fun h => by have := lkB_lt h; rwa [bl_length] at this
    clear hb
    generalize lkB (bl s) m = b at *
    have hsub := sub48 b
    obtain ⟨d, hd⟩ : ∃ d, d = (b - 48).toNat := ⟨_, rfl⟩
    have hd255 : d < 256 := by rw [hd]; exact (b - 48).toNat_lt
    rw [← hd] at hsub
    have HD := Lib.hid hd
    clear hd
    rw [← HD.out] at HST
    have hMd : IntKind.u64.wrap ((M : Int) - (d : Int)) = (M : Int) - (d : Int) := IntWalk.u64_in _ (by omega)
    have hMd0 : 0 ≤ (M : Int) - (d : Int) := by omega
    go_upto_region 9 with (fail)
    clear c1 f1 hlt hsub
    go_cut [10] (fun s10 wx => s10 = .bool (barN neg n begun d) ∧ wx = w2)
    case first => as_aux_lemma =>
      clear HST HO2 HR2 HAT HD hlk
      by_cases hn0 : n = 0
      · have g1 : ((n : Int) == 0) = true := by simp [hn0]
        have g2 : decide (((M : Int) - (d : Int)) / 10 < (n : Int)) = false := by simp; omega
        have g3 : ¬ (M - d) / 10 < n := by omega
        cases begun with
        | true =>
          have HF : Hid (barN neg n true d = true) := Lib.hid (by simp [barN, hn0])
          clear hn0
          go_wp2_with (fail)
          go_meet
          exact ⟨by rw [HF.out], rfl⟩
        | false =>
          cases neg with
          | true =>
            by_cases hd0 : d = 0
            · have g4 : ((d : Int) == 0) = true := by simp [hd0]
              have HF : Hid (barN true n false d = true) := Lib.hid (by simp [barN, hn0, hd0])
              clear hn0 hd0
              go_wp2_with (fail)
              go_meet
              exact ⟨by rw [HF.out], rfl⟩
            · have g4 : ((d : Int) == 0) = false := beq_eq_false_iff_ne.2 (by omega)
              have HF : Hid (barN true n false d = false) := Lib.hid (by rw [HM.out] at g3; simp [barN, hd0, g3])
              clear hn0 hd0
              go_wp2_with (fail)
              go_meet
              exact ⟨by rw [HF.out], rfl⟩
          | false =>
            have HF : Hid (barN false n false d = false) := Lib.hid (by rw [HM.out] at g3; simp [barN, g3])
            clear hn0
            go_wp2_with (fail)
            go_meet
            exact ⟨by rw [HF.out], rfl⟩
      · have g1 : ((n : Int) == 0) = false := beq_eq_false_iff_ne.2 (by omega)
        have HF : Hid (barN neg n begun d = decide (((M : Int) - (d : Int)) / 10 < (n : Int))) := Lib.hid (by
          rw [Bool.eq_iff_iff]
          simp only [barN, hn0, ← HM.out, decide_eq_true_eq, Bool.or_eq_true, decide_false, Bool.false_and, Bool.false_eq_true, false_or]
          omega)
        clear hn0
        go_wp2_with (fail)
        go_meet
        exact ⟨by rw [HF.out], rfl⟩
    case rest =>
      obtain ⟨rfl, hwc⟩ := hcut
      subst hwc
      have HBR : Hid (barN neg n begun d = true ∨ 10 * n + d ≤ M) := Lib.hid (by
        cases hb : barN neg n begun d with
        | true => exact .inl rfl
        | false =>
          right
          have : ¬ (M - d) / 10 < n := by
            intro hc
            rw [HM.out] at hc
            simp [barN, hc] at hb
          omega)
      obtain ⟨bar, hbar⟩ : ∃ bar, bar = barN neg n begun d := ⟨_, rfl⟩
      rw [← hbar]
      rw [← hbar] at HST HBR
      clear hbar hMd hMd0
      have c1 := cell2_1 HR2.out.box
      have f1 := cell3_f HR2.out.box 1
      have hlt := HR2.out.lt
      go_wp2_with (fail)
      refine (isDigit_any b _).mono ?_
      rintro e w3 ⟨rfl, rfl⟩
      cases hdg : isDig b with
      | false =>
        have HF : Hid (numS (bl s) m0 = (m, n, begun)) := by
          show _ = _; rw [HST.out, if_neg (by simp [hdg])]
        clear HST hdg
        cases neg with
        | true =>
          have hback := neg_back n (by omega)
          go_wp2_with (fail)
          simp only [Exit.jump]
          go_ret2
          rw [HF.out]
          exact ⟨rfl, HO2.out, HR2.out⟩
        | false =>
          have hM7 : M ≤ 9223372036854775807 := Nat.le_of_eq HM.out
          have hback := pos_back n (by omega)
          go_wp2_with (fail)
          simp only [Exit.jump]
          go_ret2
          rw [HF.out]
          exact ⟨rfl, HO2.out, HR2.out⟩
      | true =>
        cases bar with
        | true =>
          have HF : Hid (numS (bl s) m0 = (m, n, begun)) := by
            show _ = _; rw [HST.out, if_neg (by simp [hdg])]
          clear HST hdg
          cases neg with
          | true =>
            have hback := neg_back n (by omega)
            go_wp2_with (fail)
            simp only [Exit.jump]
            go_ret2
            rw [HF.out]
            exact ⟨rfl, HO2.out, HR2.out⟩
          | false =>
            have hM7 : M ≤ 9223372036854775807 := Nat.le_of_eq HM.out
            have hback := pos_back n (by omega)
            go_wp2_with (fail)
            simp only [Exit.jump]
            go_ret2
            rw [HF.out]
            exact ⟨rfl, HO2.out, HR2.out⟩
        | false =>
          have hfit : 10 * n + d ≤ M := HBR.out.resolve_left (by decide)
          have HF : Hid (numS (bl s) m0 = nmF (bl s) neg ((bl s).length - (m + 1)) (m + 1) (10 * n + d) true) := by
            show _ = _; rw [HST.out, if_pos (by simp [hdg])]
          have hlm := hlk (by intro e; rw [e] at hdg; exact absurd hdg (by decide))
          have s3 : IntKind.u64.wrap (10 * (n : Int)) = 10 * (n : Int) := IntWalk.u64_in _ (by omega)
          have s4 : IntKind.u64.wrap (10 * (n : Int) + (d : Int)) = 10 * (n : Int) + (d : Int) := IntWalk.u64_in _ (by omega)
          clear HST hdg
          go_wp2_with (fail)
          go_step3
          refine ⟨rfl, ⟨m + 1, 10 * n + d, _, true, _, _, _, _, _, _, _, _, _, _, _, _, _, _, _, _, _, _, _, _, _, _, _, _, _, _, _, _, _, _, _, _, _, _, _, _, _, _, _, _, _, _, _, _, _, _, _, _, _, _, _, _, _, _, _, _, rfl, by omega, by omega, hfit, HF, Lib.hid (by rw [show (m : Int) + 1 = ((m + 1 : Nat) : Int) by omega]; exact HR2.out.go (m + 1) (by omega)), Lib.hid (HO2.out.trans (Only.set_ R 1 _ _))⟩, ?_⟩
          have hat2 := at_of (HR2.out.go (m + 1) (by omega))
          rw [show ((m + 1 : Nat) : Int) = (m : Int) + 1 by omega] at hat2
          rw [HAT.out, hat2]
          omega
end Go.Proofs.YteebihdgfkmgmaaGreatDoor
