/-
The node under way: it moves; a digit laid to it.
-/
import Derived.Test.YteebihdgfkmgmaaGreatDoorPk
namespace Go.Proofs.YteebihdgfkmgmaaGreatDoor
open Go.RowKit

theorem PnI.only {w W : World} {R P d c : Nat} {nd : Nd} {A : Option Addr} {vs : Value} {cs : List Value} (hN : PnI w P d nd A c vs cs) (hRP : R < P) (hO : Only R w W) : PnI W P d nd A c vs cs := by
  have hmv : ∀ b, (P < b ∧ some b ≠ vs.ownBlock) → b < w.heap.size → (P < b ∧ some b ≠ vs.ownBlock) ∧ ∀ o, W.cell? ⟨b, o, none⟩ = w.cell? ⟨b, o, none⟩ := fun b hb hl => ⟨hb, fun o => World.cell?_of_block (hO.block b hl (by simp; omega))⟩
  refine ⟨?_, (hO.block P (cell_lt hN.box) (by simp; omega)).trans hN.box, ?_, fun i a ha => ?_⟩
  · refine hN.own.kept (row := some R) hO ?_
    cases e : vs.ownBlock with
    | none => exact .inl rfl
    | some g => exact .inr (fun e2 => by have := (hN.own.lt g e).1; injection e2; omega)
  · obtain ⟨dt, ht⟩ := hN.ty
    exact ⟨dt, TyAt.move hmv dt _ _ ht⟩
  · obtain ⟨x0, x1, x2, x3, x4, x5, e0, e1, e2, e3, e4, e5, hx⟩ := hN.args i a ha
    exact ⟨x0, x1, x2, x3, x4, x5, e0, e1, e2, e3, e4, e5, NdAt.move hmv d _ _ hx⟩

theorem PnI.int {w : World} {P d c : Nat} {nd : Nd} {A : Option Addr} {vs : Value} {cs : List Value} (hN : PnI w P d nd A c vs cs) (i : Int) : PnI (w.setCell ⟨P, 1, none⟩ (.int .i64 i)) P d (.mk nd.op i nd.text nd.ty nd.kids) A c vs cs := by
  have hO := Only.set_ P 1 w (.int .i64 i)
  have hmv : ∀ b, (P < b ∧ some b ≠ vs.ownBlock) → b < w.heap.size → (P < b ∧ some b ≠ vs.ownBlock) ∧ ∀ o, (w.setCell ⟨P, 1, none⟩ (.int .i64 i)).cell? ⟨b, o, none⟩ = w.cell? ⟨b, o, none⟩ := fun b hb hl => ⟨hb, fun o => World.cell?_of_block (hO.block b hl (by simp; omega))⟩
  refine ⟨?_, ?_, ?_, fun j a ha => ?_⟩
  · refine hN.own.kept (row := some P) hO ?_
    cases e : vs.ownBlock with
    | none => exact .inl rfl
    | some g => exact .inr (fun e2 => by have := (hN.own.lt g e).1; injection e2; omega)
  · have h := hN.box
    simp [World.setCell, Array.getElem?_modify, h, Nd.op, Nd.int, Nd.text, Nd.ty]
  · obtain ⟨dt, ht⟩ := hN.ty
    exact ⟨dt, TyAt.move hmv dt _ _ ht⟩
  · obtain ⟨x0, x1, x2, x3, x4, x5, e0, e1, e2, e3, e4, e5, hx⟩ := hN.args j a ha
    exact ⟨x0, x1, x2, x3, x4, x5, e0, e1, e2, e3, e4, e5, NdAt.move hmv d _ _ hx⟩

theorem Kp.set_ {R P : Nat} {w W : World} (h : Kp R P w W) (i : Nat) (u : Value) : Kp R P w (W.setCell ⟨P, i, none⟩ u) :=
  h.trans ⟨rfl, rfl, rfl, by simp [World.setCell], fun j hj _ => Below.heap_setCell W _ u j (by show j ≠ P; omega)⟩
end Go.Proofs.YteebihdgfkmgmaaGreatDoor

namespace Go.Proofs.YteebihdgfkmgmaaGreatDoor
open Go.RowKit

theorem part_dg (kp : List UInt8 → Nat × Option Ty) (f : Nat → Nat × Option Nd) (l : List UInt8) (m : Nat) (nd : Nd) : partR kp f l 100 m nd = bindP (digR l (skip l m)) fun m' i => (m', some (.mk nd.op i nd.text nd.ty nd.kids)) := by
  unfold partR
  rw [if_pos rfl]

theorem DgOut.parts {R m : Nat} {s : ByteArray} {w w' : World} {e : Ending} (h : DgOut R s m w e w') : ∃ (i : Int) (g : Bool), e = .returned (.tuple #[.int .i64 i, .bool g]) ∧ Only R w w' ∧ Rdr w' R s (digR (bl s) m).1 ∧ g = (digR (bl s) m).2.isSome ∧ ∀ k, (digR (bl s) m).2 = some k → k = i := by
  unfold DgOut at h
  unfold digR
  by_cases hd : isDig (lkB (bl s) m) = true
  · rw [if_pos hd] at h
    rw [if_pos hd]
    exact ⟨_, true, h.1, h.2.1, h.2.2, rfl, fun k hk => by cases hk; rfl⟩
  · rw [if_neg hd] at h
    rw [if_neg hd]
    exact ⟨_, false, h.1, h.2.1, h.2.2, rfl, fun k hk => by cases hk⟩

set_option maxRecDepth 100000 in
set_option maxHeartbeats 4000000 in
theorem part_digit (kp : List UInt8 → Nat × Option Ty) (f : Nat → Nat × Option Nd) (d R P : Nat) (s : ByteArray) (m : Nat) (room : Int) (nd : Nd) (A : Option Addr) (c : Nat) (vs : Value) (cs : List Value) (w : World) (h : Rdr w R s m) (hN : PnI w P (d + 1) nd A c vs cs) (hRP : R < P) :
    Calls Tryz.prog 160 #[.pointer (some ⟨R, 0, none⟩), .pointer (some ⟨P, 0, none⟩), .int .u8 100, .int .i64 room] w fun e w' => POut (d + 1) R P s vs w e w' (partR kp f (bl s) 100 m nd) := by
  have hRl := h.lt
  have hPl := cell_lt hN.box
  have HR := Lib.hid h
  have HN := Lib.hid hN
  clear h hN
  go_enter Tryz.func160, Tryz.ntmps160
  go_wp2_with (fail)
  refine (skip_any R s m w HR.out).mono ?_
  rintro e w1 ⟨⟨v, rfl⟩, ho, hr⟩
  have HO1 := Lib.hid ho
  have HR1 := Lib.hid hr
  have hs1 := ho.size
  have hba := (Below.refl w1.heap.size w1).alloc (Nat.le_refl _) (.cells #[.string ⟨#[]⟩, .int .i64 0, .string ⟨#[]⟩, .int .i64 0, .slice none 0 0, .slice none 0 0] 27)
  have HR2 := Lib.hid (HR1.out.below hba)
  clear ho hr
  go_wp2_with (fail)
  obtain ⟨w2, hw2⟩ : ∃ w2, w2 = w1.alloc (.cells #[.string ⟨#[]⟩, .int .i64 0, .string ⟨#[]⟩, .int .i64 0, .slice none 0 0, .slice none 0 0] 27) := ⟨_, rfl⟩
  have hs2 : w2.heap.size = w1.heap.size + 1 := by rw [hw2]; simp
  rw [← hw2] at hba HR2
  rw [← hw2]
  clear hw2
  refine (readDigit_any R s _ w2 HR2.out).mono ?_
  intro e w3 h3
  obtain ⟨i, good, rfl, ho3, hr3, hgood, hv3⟩ := h3.parts
  have HV3 := Lib.hid hv3
  have HR3 := Lib.hid hr3
  have HG := Lib.hid hgood
  have hs3 := ho3.size
  have HO3 : Hid (Only R w w3) := (HO1.out.trans (Only.of_below hba)).trans ho3
  have HP3 := Lib.hid (HN.out.only hRP HO3.out)
  have y1 := cell6_1 HP3.out.box
  have yf := cell3_f HP3.out.box 1
  have yl := cell_lt HP3.out.box
  clear hv3 hr3 hgood h3 ho3
  go_wp2_with (fail)
  refine bodyPost_ret (v := .bool good) (by simp [results, Tryz.results160, go_sem]) rfl ?_
  have hpn := HP3.out.int i
  have hbx := hpn.boxN
  have hkp := (Kv.of_only (P := P) (vs := vs) HO3.out).set_ 1 (.int .i64 i)
  have hrd : Rdr (w3.setCell ⟨P, 1, none⟩ (.int .i64 i)) R s (digR (bl s) (skip (bl s) m)).1 := Rdr.far (p := ⟨P, 1, none⟩) (by show R ≠ P; omega) HR3.out
  have hv := HV3.out
  have hg := HG.out
  rw [part_dg]
  match hq : digR (bl s) (skip (bl s) m), hrd, hv, hg with
  | (m', none), hrd, _, hg => exact ⟨by rw [hg]; rfl, hkp, hrd, hbx, fun nd hnd => by cases hnd⟩
  | (m', some k), hrd, hv, hg =>
    have hki := hv k rfl
    subst hki
    exact ⟨by rw [hg]; rfl, hkp, hrd, hbx, fun nd' hnd => by cases hnd; exact ⟨A, c, vs, cs, hpn, .inl rfl⟩⟩
end Go.Proofs.YteebihdgfkmgmaaGreatDoor

namespace Go.Proofs.YteebihdgfkmgmaaGreatDoor
open Go.RowKit

/-- What readType answers with. -/
def TOut (R : Nat) (s : ByteArray) (w : World) (e : Ending) (w' : World) (p : Nat × Option Ty) : Prop :=
  ∃ (i : Int) (A : Option Addr) (n c : Nat) (g : Bool), e = .returned (.tuple #[.agg #[.int .i64 i, .slice A n c], .bool g]) ∧ Only R w w' ∧ Rdr w' R s p.1 ∧ g = p.2.isSome ∧ ∀ t, p.2 = some t → i = t.kind ∧ n = t.args.length ∧ ∃ dt, TyAt w' (fun b => w.heap.size ≤ b) dt (.agg #[.int .i64 t.kind, .slice A t.args.length c]) t

theorem part_ty (kp : List UInt8 → Nat × Option Ty) (f : Nat → Nat × Option Nd) (l : List UInt8) (m : Nat) (nd : Nd) : partR kp f l 116 m nd = bindP (typR kp l (skip l m)) fun m' t => (m', some (.mk nd.op nd.int nd.text t nd.kids)) := by
  unfold partR
  rw [if_neg (by decide), if_pos rfl]

theorem PnI.type {w0 : Nat} {w : World} {P d c c' : Nat} {nd : Nd} {A A' : Option Addr} {vs : Value} {cs : List Value} {t : Ty} {dt : Nat} (hN : PnI w P d nd A c vs cs) (h0 : ∀ b, w0 ≤ b → P < b ∧ some b ≠ vs.ownBlock) (ht : TyAt w (fun b => w0 ≤ b) dt (.agg #[.int .i64 t.kind, .slice A' t.args.length c']) t) :
    PnI ((w.setCell ⟨P, 3, none⟩ (.int .i64 t.kind)).setCell ⟨P, 4, none⟩ (.slice A' t.args.length c')) P d (.mk nd.op nd.int nd.text t nd.kids) A' c' vs cs := by
  have hO := (Only.set_ P 3 w (.int .i64 t.kind)).trans (Only.set_ P 4 _ (.slice A' t.args.length c'))
  have hmv : ∀ b, (P < b ∧ some b ≠ vs.ownBlock) → b < w.heap.size → (P < b ∧ some b ≠ vs.ownBlock) ∧ ∀ o, ((w.setCell ⟨P, 3, none⟩ (.int .i64 t.kind)).setCell ⟨P, 4, none⟩ (.slice A' t.args.length c')).cell? ⟨b, o, none⟩ = w.cell? ⟨b, o, none⟩ := fun b hb hl => ⟨hb, fun o => World.cell?_of_block (hO.block b hl (by simp; omega))⟩
  refine ⟨?_, ?_, ?_, fun j a ha => ?_⟩
  · refine hN.own.kept (row := some P) hO ?_
    cases e : vs.ownBlock with
    | none => exact .inl rfl
    | some g => exact .inr (fun e2 => by have := (hN.own.lt g e).1; injection e2; omega)
  · have h := hN.box
    simp [World.setCell, Array.getElem?_modify, h, Nd.op, Nd.int, Nd.text, Nd.ty]
  · exact ⟨dt, TyAt.move (fun b hb hl => hmv b (h0 b hb) hl) dt _ _ ht⟩
  · obtain ⟨x0, x1, x2, x3, x4, x5, e0, e1, e2, e3, e4, e5, hx⟩ := hN.args j a ha
    exact ⟨x0, x1, x2, x3, x4, x5, e0, e1, e2, e3, e4, e5, NdAt.move hmv d _ _ hx⟩

set_option maxRecDepth 100000 in
set_option maxHeartbeats 4000000 in
theorem part_type (kp : List UInt8 → Nat × Option Ty) (f : Nat → Nat × Option Nd) (d R P : Nat) (s : ByteArray) (m : Nat) (room : Int) (nd : Nd) (A : Option Addr) (c : Nat) (vs : Value) (cs : List Value) (w : World) (h : Rdr w R s m) (hN : PnI w P (d + 1) nd A c vs cs) (hRP : R < P) (G : World → Prop) (hGo : ∀ w w', Only R w w' → G w → G w') (hGw : G w) (hT : ∀ (m : Nat) (w : World), G w → Rdr w R s m → Calls Tryz.prog 184 #[.pointer (some ⟨R, 0, none⟩)] w fun e w' => TOut R s w e w' (typR kp (bl s) m)) :
    Calls Tryz.prog 160 #[.pointer (some ⟨R, 0, none⟩), .pointer (some ⟨P, 0, none⟩), .int .u8 116, .int .i64 room] w fun e w' => POut (d + 1) R P s vs w e w' (partR kp f (bl s) 116 m nd) := by
  have hRl := h.lt
  have hPl := cell_lt hN.box
  have HR := Lib.hid h
  have HN := Lib.hid hN
  have HGO := Lib.hid hGo
  have HGW := Lib.hid hGw
  clear h hN hGo hGw
  go_enter Tryz.func160, Tryz.ntmps160
  go_wp2_with (fail)
  refine (skip_any R s m w HR.out).mono ?_
  rintro e w1 ⟨⟨v, rfl⟩, ho, hr⟩
  have HO1 := Lib.hid ho
  have HR1 := Lib.hid hr
  have hs1 := ho.size
  have hba := (Below.refl w1.heap.size w1).alloc (Nat.le_refl _) (.cells #[.string ⟨#[]⟩, .int .i64 0, .string ⟨#[]⟩, .int .i64 0, .slice none 0 0, .slice none 0 0] 27)
  have HR2 := Lib.hid (HR1.out.below hba)
  clear ho hr
  go_wp2_with (fail)
  obtain ⟨w2, hw2⟩ : ∃ w2, w2 = w1.alloc (.cells #[.string ⟨#[]⟩, .int .i64 0, .string ⟨#[]⟩, .int .i64 0, .slice none 0 0, .slice none 0 0] 27) := ⟨_, rfl⟩
  have hs2 : w2.heap.size = w1.heap.size + 1 := by rw [hw2]; simp
  rw [← hw2] at hba HR2
  rw [← hw2]
  clear hw2
  refine (hT _ w2 (HGO.out _ _ (HO1.out.trans (Only.of_below hba)) HGW.out) HR2.out).mono ?_
  intro e w3 h3
  obtain ⟨i, A2, n2, c2, good, rfl, ho3, hr3, hgood, hv3⟩ := h3
  have HV3 := Lib.hid hv3
  have HR3 := Lib.hid hr3
  have HG := Lib.hid hgood
  have hs3 := ho3.size
  have HO3 : Hid (Only R w w3) := (HO1.out.trans (Only.of_below hba)).trans ho3
  have HP3 := Lib.hid (HN.out.only hRP HO3.out)
  have y3 := cell6_3 HP3.out.box
  have y4 := cell6_4 HP3.out.box
  have yf3 := cell3_f HP3.out.box 3
  have yf4 := cell3_f HP3.out.box 4
  have yl := cell_lt HP3.out.box
  clear hv3 hr3 hgood ho3
  go_wp2_with (fail)
  refine bodyPost_ret (v := .bool good) (by simp [results, Tryz.results160, go_sem]) rfl ?_
  have hkp := ((Kv.of_only (P := P) (vs := vs) HO3.out).set_ 3 (.int .i64 i)).set_ 4 (.slice A2 n2 c2)
  have hrd : Rdr ((w3.setCell ⟨P, 3, none⟩ (.int .i64 i)).setCell ⟨P, 4, none⟩ (.slice A2 n2 c2)) R s (typR kp (bl s) (skip (bl s) m)).1 := Rdr.far (p := ⟨P, 4, none⟩) (by show R ≠ P; omega) (Rdr.far (p := ⟨P, 3, none⟩) (by show R ≠ P; omega) HR3.out)
  have hbx : BoxN ((w3.setCell ⟨P, 3, none⟩ (.int .i64 i)).setCell ⟨P, 4, none⟩ (.slice A2 n2 c2)) P := by
    obtain ⟨o, i0, t0, k0, A0, n0, c0, K0, m0, e0, hb⟩ := HP3.out.boxN
    exact ⟨o, i0, t0, i, A2, n2, c2, K0, m0, e0, by simp [World.setCell, Array.getElem?_modify, hb]⟩
  have hv := HV3.out
  have hg := HG.out
  rw [part_ty]
  match hq : typR kp (bl s) (skip (bl s) m), hrd, hv, hg with
  | (m', none), hrd, _, hg => exact ⟨by rw [hg]; rfl, hkp, hrd, hbx, fun nd hnd => by cases hnd⟩
  | (m', some t), hrd, hv, hg =>
    obtain ⟨hki, hkn, dt, ht⟩ := hv t rfl
    subst hki
    subst hkn
    refine ⟨by rw [hg]; rfl, hkp, hrd, hbx, fun nd' hnd => ?_⟩
    cases hnd
    exact ⟨A2, c2, vs, cs, HP3.out.type (w0 := w2.heap.size) (fun b hb => ⟨by have := HO1.out.size; omega, fun e => by have := (HN.out.own.lt b e.symm).2; have := HO1.out.size; omega⟩) ht, .inl rfl⟩
end Go.Proofs.YteebihdgfkmgmaaGreatDoor
