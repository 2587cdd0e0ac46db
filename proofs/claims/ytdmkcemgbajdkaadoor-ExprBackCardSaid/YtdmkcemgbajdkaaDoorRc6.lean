/-
The reader of package expr: readString.
-/
import Derived.Test.YtdmkcemgbajdkaaDoorRc5
namespace Go.Proofs.YtdmkcemgbajdkaaDoor
open Go.RowKit

theorem info5 : (Tryd.prog.info? 5).map (fun i => (i.zero, i.size, i.bytes)) = some (some (.int .u8 0), 1, 1) := by kernel_rfl
def slLen : Value → Nat
  | .slice _ n _ => n
  | _ => 0
/-- A string from its quote on. -/
def strS (l : List UInt8) (m : Nat) : Nat × Option (List UInt8) := strF l 257 [] (m + 1)
/-- What readString answers with. -/
def StOut (R : Nat) (s : ByteArray) (w : World) (e : Ending) (w' : World) : Nat × Option (List UInt8) → Prop
  | (m', none) => e = .returned (.tuple #[.string ⟨#[]⟩, .bool false]) ∧ Only R w w' ∧ Rdr w' R s m'
  | (m', some t) => e = .returned (.tuple #[.string ⟨t.toArray⟩, .bool true]) ∧ Only R w w' ∧ Rdr w' R s m'

set_option maxRecDepth 100000 in
set_option maxHeartbeats 2000000 in
theorem string_any (R : Nat) (s : ByteArray) (m0 : Nat) (w : World) (hm0 : m0 < s.size) (h : Rdr w R s m0) :
    Calls Tryd.prog 26 #[.pointer (some ⟨R, 0, none⟩)] w fun e w' => StOut R s w e w' (strS (bl s) m0) := by
  obtain ⟨i0, hi, hq0, hq1, hq2⟩ := info_parts info5
  have HR := Lib.hid h
  have hRl := h.lt
  have hlen := h.len
  have c1 := cell2_1 h.box
  have f1 := cell3_f h.box 1
  clear h
  go_enter Tryd.func26, Tryd.ntmps26
  go_wp2
  refine wp_scope_enter2 (fun a' w' => ∃ (m : Nat) (acc : List UInt8) (v u5 u6 u7 u8 u9 u10 u11 u12 u13 u14 u15 u16 u17 u18 u19 u20 u21 u22 u23 u24 u25 u26 u27 u28 u29 u30 : Value), a' = { tmps := #[.pointer (some ⟨R, 0, none⟩), undef, .string ⟨#[]⟩, .bool false, v, u5, u6, u7, u8, u9, u10, u11, u12, u13, u14, u15, u16, u17, u18, u19, u20, u21, u22, u23, u24, u25, u26, u27, u28, u29, u30], defers := [] } ∧ m ≤ s.size ∧ acc.length ≤ 256 ∧ Hid (strS (bl s) m0 = strF (bl s) (257 - acc.length) acc m) ∧ Hid (w'.ownsRow w.heap.size 5 1 v acc.length (bcl acc)) ∧ Hid (Rdr w' R s m) ∧ Hid (Only R w w')) (fun a' _ => 300 - slLen (a'.tmps.getD 4 undef)) ?hf ?first ?pass
  case hf => rfl
  case first =>
    go_wp2_with (fail)
    exact ⟨m0 + 1, [], .slice none 0 0, _, _, _, _, _, _, _, _, _, _, _, _, _, _, _, _, _, _, _, _, _, _, _, _, _, _, rfl, by omega, by simp, Lib.hid rfl, Lib.hid (World.ownsRow_nil _ _ _ _), Lib.hid (by rw [show (m0 : Int) + 1 = ((m0 + 1 : Nat) : Int) by omega]; exact HR.out.go (m0 + 1) (by omega)), Lib.hid (Only.set_ R 1 w _)⟩
  case pass =>
    clear c1 f1
    rintro a' wr ⟨m, acc, v, u5, u6, u7, u8, u9, u10, u11, u12, u13, u14, u15, u16, u17, u18, u19, u20, u21, u22, u23, u24, u25, u26, u27, u28, u29, u30, rfl, hm, hacc, HS, HO, HR1, HO1⟩
    obtain ⟨Av, cv, rfl⟩ := own_slice HO.out
    have HST : Hid (strS (bl s) m0 = (if lkB (bl s) m = 34 then (m + 1, some acc) else if acc.length < 256 then (match letS (bl s) m with
      | (m', none) => (m', none)
      | (m', some b) => strF (bl s) (257 - (acc.length + 1)) (acc ++ [b]) m') else (m, none))) := by
      show _ = _
      rw [HS.out, show 257 - acc.length = (257 - (acc.length + 1)) + 1 by omega]
      rfl
    have hsr := HO1.out.size
    go_wp2_with (fail)
    refine (readByte_any R s m 34 wr (by decide) HR1.out).mono ?_
    by_cases h34 : lkB (bl s) m = 34
    · have HF : Hid (strS (bl s) m0 = (m + 1, some acc)) := by show _ = _; rw [HST.out, if_pos h34]
      rw [show rdB (bl s) m 34 = true by unfold rdB; rw [decide_eq_true h34]]
      rintro e w2 ⟨rfl, ho, hr⟩
      have HR2 : Hid (Rdr w2 R s (m + 1)) := Lib.hid hr
      have hcv := string_run (w := w2) HO.out (fun k hk => ho.block k (HO.out.lt k hk).2 (by have := (HO.out.lt k hk).1; simp; omega))
      clear hr h34
      go_wp2_with (fail)
      simp only [Exit.jump]
      go_ret2
      rw [HF.out]
      exact ⟨rfl, HO1.out.trans ho, HR2.out⟩
    · rw [show rdB (bl s) m 34 = false by unfold rdB; rw [decide_eq_false h34]]
      rintro e w2 ⟨rfl, ho, hr⟩
      have HR2 : Hid (Rdr w2 R s m) := Lib.hid hr
      have HO2 := Lib.hid (HO1.out.trans ho)
      have HOW2 := Lib.hid (HO.out.kept (row := some R) ho (.inr (fun e => by have := (HO.out.lt R e).1; omega)))
      have H34 := Lib.hid h34
      clear hr ho h34
      by_cases hac : acc.length < 256
      · have hacd : decide ((acc.length : Int) < 256) = true := by simp; omega
        have HS2 : Hid (strS (bl s) m0 = (match letS (bl s) m with
          | (m', none) => (m', none)
          | (m', some b) => strF (bl s) (257 - (acc.length + 1)) (acc ++ [b]) m')) := by show _ = _; rw [HST.out, if_neg H34.out, if_pos hac]
        go_wp2_with (fail)
        refine (letter_any R s m w2 HR2.out).mono ?_
        cases hc : letS (bl s) m with
        | mk m' o =>
        cases o with
        | none =>
          have HF : Hid (strS (bl s) m0 = (m', none)) := by show _ = _; rw [HS2.out, hc]
          clear hc
          rintro e w3 ⟨rfl, ho, hr⟩
          have HR3 := Lib.hid hr
          clear hr
          go_wp2_with (fail)
          simp only [Exit.jump]
          go_ret2
          rw [HF.out]
          exact ⟨rfl, HO2.out.trans ho, HR3.out⟩
        | some b =>
          have HF : Hid (strS (bl s) m0 = strF (bl s) (257 - (acc ++ [b]).length) (acc ++ [b]) m') := by
            show _ = _; rw [HS2.out, hc, show (acc ++ [b]).length = acc.length + 1 by simp]
          clear hc
          rintro e w3 ⟨rfl, ho, hr⟩
          have HR3 := Lib.hid hr
          have hmr := hr.le
          have HO3 := Lib.hid (HO2.out.trans ho)
          have HOW3 := Lib.hid (HOW2.out.kept (row := some R) ho (.inr (fun e => by have := (HOW2.out.lt R e).1; omega)))
          have hs3 := HO3.out.size
          have hR3 := HR3.out.lt
          clear hr ho
          go_wp2_with (at_builtin; refine wpList_append_own _ rfl _ _ 59 rfl w.heap.size 5 i0 (.int .u8 0) 1 1 Tryd.underlying59 hi hq0 hq1 hq2 rfl (by decide) _ acc.length (bcl acc) rfl (HOW3.out.alloc _) ⟨w3.heap.size, 0, none⟩ 1 1 [.int .u8 (b.toNat : Int)] rfl rfl (cell_one_new' _ _ _ _ (by simp)) (by intro u hu; simp at hu; subst hu; rfl) (by unfold maxLen; omega) (by omega) (by simp; omega) ?_; intro v' w7 hown7 hg7 _)
          obtain ⟨A7, c7, rfl⟩ := own_slice hown7
          go_step3
          refine ⟨rfl, ⟨m', acc ++ [b], .slice A7 (acc.length + 1) c7, _, _, _, _, _, _, _, _, _, _, _, _, _, _, _, _, _, _, _, _, _, _, _, _, _, _, rfl, hmr, by simp; omega, HF, Lib.hid (by rw [bcl_snoc, List.length_append]; exact hown7), Lib.hid ⟨?_, hmr, hlen⟩, Lib.hid (Only.grown (only_alloc' HO3.out _) hg7 fun k hk => (HOW3.out.lt k hk).1)⟩, ?_⟩
          · have hne : some R ≠ (Value.slice Av acc.length cv).ownBlock := fun e => by have := (HOW3.out.lt R e.symm).1; omega
            rw [hg7.block R (by simp; omega) hne, Below.heap_alloc _ _ _ hR3]
            exact HR3.out.box
          · simp [slLen]; omega
      · have hacd : decide ((acc.length : Int) < 256) = false := by simp; omega
        have HF : Hid (strS (bl s) m0 = (m, none)) := by show _ = _; rw [HST.out, if_neg H34.out, if_neg hac]
        go_wp2_with (fail)
        simp only [Exit.jump]
        go_ret2
        rw [HF.out]
        exact ⟨rfl, HO2.out, HR2.out⟩
end Go.Proofs.YtdmkcemgbajdkaaDoor
