/-
The walk of readList.
-/
import Derived.Test.YtbafplnolmdlnaaDoorRdl
namespace Go.Proofs.YtbafplnolmdlnaaDoor
open Go.RowKit

theorem LsI.lat {w wr : World} {R : Nat} {A : Option Addr} {c : Nat} {l : List UInt8} {r : Nat} {t : Ty} {A0 : Option Addr} {c0 : Nat} {acc : List Val} {m sz : Nat} {vs : Value} {cs : List Value} (h : LsI w R A c l r t A0 c0 acc m sz vs cs wr) : LAt wr (fun b => w.heap.size ≤ b) r vs acc := by
  rcases h.own.2 with ⟨rfl, h0⟩ | ⟨g, cap, cur, rfl, hbg, hg, hnc, _⟩
  · refine ⟨none, 0, by rw [h0], by omega, fun hl => by omega⟩
  · have hgl := cell_lt hg
    refine ⟨some ⟨g, 0, none⟩, cap, rfl, hnc, fun hl => ⟨g, 0, rfl, by show w.heap.size ≤ g; omega, fun j a ha => ?_⟩⟩
    obtain ⟨u0, u1, u2, u3, u4, h0, h1, h2, h3, h4, h5⟩ := h.args j a ha
    have hjl := (List.getElem?_eq_some_iff.1 ha).1
    refine ⟨u0, u1, u2, u3, u4, ?_, ?_, ?_, ?_, ?_, h5.wider fun b hb => hb.1⟩
    · rw [Nat.zero_add, h.own.cellAt _ (by omega)]; exact h0
    · rw [Nat.zero_add, h.own.cellAt _ (by omega)]; exact h1
    · rw [Nat.zero_add, h.own.cellAt _ (by omega)]; exact h2
    · rw [Nat.zero_add, h.own.cellAt _ (by omega)]; exact h3
    · rw [Nat.zero_add, h.own.cellAt _ (by omega)]; exact h4

theorem LAt.only {w w' : World} {R d : Nat} {S : Nat → Prop} {v : Value} {L : List Val} (h : LAt w S d v L) (hS : ∀ b, S b → b ≠ R) (ho : Only R w w') : LAt w' S d v L :=
  h.move fun b hb hl => ⟨hb, fun _ => World.cell?_of_block (ho.block b hl (by simpa using hS b hb))⟩

set_option maxRecDepth 100000 in
set_option maxHeartbeats 2000000 in
theorem list_any (r d q : Nat) (S : Nat → Prop) (R : Nat) (A : Option Addr) (c : Nat) (l : List UInt8) (m0 sz0 : Nat) (v : Value) (t : Ty) (w : World) (hV : VOk r) (hr6 : r ≤ 6) (hm : measureT r t = some q) (hT : TyAt w S d v t) (hS : ∀ b, S b → b ≠ R) (h : Rdr w R A c l m0 sz0) (hsz : sz0 ≤ 2000) :
    Calls Tryd.prog 34 #[.pointer (some ⟨R, 0, none⟩), v] w fun e w' => ROut R A c l (fun w' S v V => LAt w' S r v V) JunkL w e w' (getL (getV r t l) (leastT r t) l 65 [] m0 sz0) := by
  obtain ⟨i0, hi, hq0, hq1, hq2⟩ := info_parts info32
  have HV := Lib.hid hV
  have HM := Lib.hid hm
  have HS := Lib.hid hS
  have hRl := h.lt
  have HR := Lib.hid h
  have HT := Lib.hid hT
  obtain ⟨A0, c0, rfl⟩ := hT.form
  have hba := (Below.refl w.heap.size w).alloc (Nat.le_refl _) (.cells #[.int .i64 t.kind, .slice A0 t.args.length c0] 38)
  have hn := heap_alloc_new w (.cells #[.int .i64 t.kind, .slice A0 t.args.length c0] 38)
  have HBA := Lib.hid hba
  have HN := Lib.hid hn
  clear hV hm hS h hT hba hn
  go_enter Tryd.func34, Tryd.ntmps34
  go_wp2_with (fail)
  go_loopw [6] (fun vs wr => ∃ (acc : List Val) (m sz : Nat) (cs : List Value), acc.length ≤ 64 ∧ sz ≤ 2000 ∧ Hid (getL (getV r t l) (leastT r t) l 65 [] m0 sz0 = getL (getV r t l) (leastT r t) l (65 - acc.length) acc m sz) ∧ Hid (LsI w R A c l r t A0 c0 acc m sz vs cs wr)) (fun vs _ => 70 - (match vs with | .slice _ n _ => n | _ => 0))
  case atStart => exact ⟨[], m0, sz0, [], by simp, hsz, rfl, ⟨World.ownsRow_nil _ _ _ _, Only.of_below HBA.out, HR.out.below HBA.out, HN.out, fun i a ha => by simp at ha⟩⟩
  case round =>
    obtain ⟨acc, m, sz, cs, hacc, hsz1, HE, HI⟩ := hrel
    obtain ⟨Av, cv, hvs⟩ := own_slice HI.out.own
    subst hvs
    have hsr := HI.out.only.size
    have hwr := cell_lt HI.out.box
    have b0 := cell2_0 HI.out.box
    have b1 := cell2_1 HI.out.box
    have HTr := Lib.hid (HT.out.only HS.out HI.out.only)
    obtain ⟨room, hroom⟩ : ∃ room, room = decide (acc.length < 64) := ⟨_, rfl⟩
    have hroom2 : decide ((acc.length : Int) < 64) = room := by rw [hroom]; simp; omega
    have hfu : 65 - acc.length = (65 - (acc.length + 1)) + 1 := by omega
    have HSTEP : Hid (getL (getV r t l) (leastT r t) l 65 [] m0 sz0 = (match okB l m (mostM room (sz + leastT r t)) with
      | none => (m, none)
      | some x => if x.toNat = 1 then (match getV r t l (m + 1) (sz + leastT r t) with
          | (m', none) => (m', none)
          | (m', some (v, sz')) => getL (getV r t l) (leastT r t) l (65 - (acc.length + 1)) (acc ++ [v]) m' sz')
        else (m + 1, some (acc, sz)))) := by
      show _ = _
      rw [HE.out, hfu, hroom]
      rfl
    clear hroom hfu
    go_wp2_with (fail)
    refine (more_any r d q S R A c l m sz _ t room wr hr6 HM.out HTr.out HI.out.rdr hsz1).mono ?_
    cases hx : okB l m (mostM room (sz + leastT r t)) with
    | none =>
      have HF : Hid (getL (getV r t l) (leastT r t) l 65 [] m0 sz0 = (m, none)) := by show _ = _; rw [HSTEP.out, hx]
      clear hx
      rintro e w2 ⟨rfl, ho, hr⟩
      have HR2 := Lib.hid hr
      clear hr
      go_wp2_with (fail)
      go_ret2
      rw [HF.out]
      exact out_bad (sz' := sz) ⟨_, _, _, rfl⟩ (HI.out.only.trans ho) (fun _ => HR2.out)
    | some x =>
      by_cases hx1 : x.toNat = 1
      · have HX1 := Lib.hid hx1
        have HST2 : Hid (getL (getV r t l) (leastT r t) l 65 [] m0 sz0 = (match getV r t l (m + 1) (sz + leastT r t) with
            | (m', none) => (m', none)
            | (m', some (v, sz')) => getL (getV r t l) (leastT r t) l (65 - (acc.length + 1)) (acc ++ [v]) m' sz')) := by
          show _ = _; rw [HSTEP.out, hx]; simp only [if_pos hx1]
        have hlim : room = true ∧ sz + leastT r t ≤ 2000 := by
          have := (okB_some hx).2.1
          unfold mostM at this
          split at this
          · rename_i hh; exact hh
          · omega
        have hlen : acc.length < 64 := by
          have := hlim.1
          rw [← hroom2] at this
          simp at this
          omega
        have hsz2 := hlim.2
        clear hlim hroom2
        rintro e w2 hmo
        simp only [MoOut, if_pos hx1] at hmo
        obtain ⟨rfl, ho, hr⟩ := hmo
        have HR2 := Lib.hid hr
        have hs2 := ho.size
        have hy0 := (ho.block w.heap.size hwr (by simp; omega)).trans HI.out.box
        clear b0 b1
        have b0 := cell2_0 hy0
        have b1 := cell2_1 hy0
        have hwr2 := cell_lt hy0
        have HT2 := Lib.hid (HTr.out.only HS.out ho)
        clear hr hy0 hx hx1
        go_wp2_with (fail)
        clear b0 b1
        refine (HV.out d S q R A c l (m + 1) (sz + leastT r t) _ t w2 hr6 HM.out HT2.out HS.out HR2.out hsz2).mono ?_
        cases hg : getV r t l (m + 1) (sz + leastT r t) with
        | mk m' o =>
        cases o with
        | none =>
          have HF : Hid (getL (getV r t l) (leastT r t) l 65 [] m0 sz0 = (m', none)) := by show _ = _; rw [HST2.out, hg]
          clear hg
          rintro e w3 ⟨⟨v, ⟨kk, ii, ss, xx, yy, AA, nn, cc, rfl⟩, rfl⟩, ho3, sz', hr⟩
          have HR3 := Lib.hid hr
          clear hr
          go_wp2_with (fail)
          go_ret2
          rw [HF.out]
          exact out_bad (sz' := sz') ⟨_, _, _, rfl⟩ (Only.more ((HI.out.only.trans ho).trans ho3)) (fun _ => HR3.out.below ((Below.refl _ _).alloc (Nat.le_refl _) _))
        | some p =>
          obtain ⟨V0, sz1⟩ := p
          have HF : Hid (getL (getV r t l) (leastT r t) l 65 [] m0 sz0 = getL (getV r t l) (leastT r t) l (65 - (acc.length + 1)) (acc ++ [V0]) m' sz1) := by show _ = _; rw [HST2.out, hg]
          clear hg
          rintro e w3 ⟨⟨v, hv, rfl⟩, ho3, hr, hsz3⟩
          obtain ⟨Aw, cw, xw, yw, rfl, _, _⟩ := hv.form
          have HVB := Lib.hid hv
          have HR3 := Lib.hid hr
          have hs3 := ho3.size
          have HO3 := Lib.hid (ho.trans ho3)
          have hown3 := HI.out.own.kept (row := some R) HO3.out (.inr (fun e => by have := (HI.out.own.lt R e).1; omega))
          have HOWN3 := Lib.hid hown3
          clear hr hv hown3
          go_wp2_with (at_builtin; refine wpList_append_own_at _ rfl _ _ 30 rfl (w.heap.size + 1) 32 i0 (.agg #[.int .i64 0, .int .i64 0, .string ⟨#[]⟩, .complex .f64 0 0, .slice none 0 0]) 5 72 Tryd.underlying30 hi hq0 hq1 hq2 rfl (by decide) _ acc.length cs rfl ((HOWN3.out.alloc _).alloc _) ⟨w3.heap.size + 1, 0, none⟩ 1 1 [.int .i64 V0.kind, .int .i64 V0.int, .string V0.text, .complex .f64 xw yw, .slice Aw V0.list.length cw] rfl rfl (cell_five_new _ _ _ _ _ _ _ _ (by simp)) (five_one _ _ _ _ _ _ _ _) (by unfold maxLen; omega) (by omega) (by simp; omega) ?_; intro v' w7 hown7 hgrow7 _ hat7)
          obtain ⟨A7, c7, rfl⟩ := own_slice hown7
          go_roundw
          case rel => exact ⟨acc ++ [V0], m', sz1, _, by simp; omega, hsz3, by rw [List.length_append]; exact HF, Lib.hid (LsI.next HI.out HR.out hRl HO3.out HR3.out (HVB.out.wider fun b hb => by have hb' : w2.heap.size ≤ b := hb; show wr.heap.size ≤ b; omega) hgrow7 hown7 hat7)⟩
          case measure => simp; omega
      · have HF : Hid (getL (getV r t l) (leastT r t) l 65 [] m0 sz0 = (m + 1, some (acc, sz))) := by show _ = _; rw [HSTEP.out, hx]; simp only [if_neg hx1]
        rintro e w2 hmo
        simp only [MoOut, if_neg hx1] at hmo
        obtain ⟨rfl, ho, hr⟩ := hmo
        have HR2 := Lib.hid hr
        have HLAT := Lib.hid (HI.out.lat.only (fun b hb => by have hb' : w.heap.size ≤ b := hb; omega) ho)
        clear hr hx hx1
        go_wp2_with (fail)
        go_ret2
        rw [HF.out]
        exact out_good HLAT.out (HI.out.only.trans ho) (fun _ => HR2.out) hsz1
end Go.Proofs.YtbafplnolmdlnaaDoor
