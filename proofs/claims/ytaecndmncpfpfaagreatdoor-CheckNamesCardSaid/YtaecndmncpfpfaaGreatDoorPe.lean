import Derived.Test.YtaecndmncpfpfaaGreatDoorPk
namespace Go.Proofs.YtaecndmncpfpfaaGreatDoor
open Go.RowKit
theorem PnI.only {w W : World} {R P d c : Nat} {nd : Nd} {A : Option Addr} {vs : Value} {cs : List Value} (hN : PnI w P d nd A c vs cs) (hRP : R < P) (hO : Only R w W) : PnI W P d nd A c vs cs := by
 have hmv : ∀ b, (P < b ∧ some b ≠ vs.ownBlock) → b < w.heap.size → (P < b ∧ some b ≠ vs.ownBlock) ∧ ∀ o, W.cell? ⟨b, o, none⟩ = w.cell? ⟨b, o, none⟩ := fun b hb hl => ⟨hb, fun o => World.cell?_of_block (hO.block b hl (by simp; omega))⟩
 refine ⟨?_, (hO.block P (zC hN.box) (by simp; omega)).trans hN.box, ?_, fun i a ha => ?_⟩
 · refine hN.own.kept (row := some R) hO ?_
   cases e : vs.ownBlock with
   | none => exact .inl rfl
   | some g => exact .inr (fun e2 => by have := (hN.own.lt g e).1; injection e2; omega)
 · obtain ⟨dt, ht⟩ := hN.ty
   exact ⟨dt, TyAt.move hmv dt _ _ ht⟩
 · obtain ⟨x0, x1, x2, x3, x4, x5, e0, e1, e2, e3, e4, e5, hx⟩ := hN.args i a ha
   exact ⟨x0, x1, x2, x3, x4, x5, e0, e1, e2, e3, e4, e5, NdAt.move hmv d _ _ hx⟩
theorem PnI.int {w : World} {P d c : Nat} {nd : Nd} {A : Option Addr} {vs : Value} {cs : List Value} (hN : PnI w P d nd A c vs cs) (i : Int) : PnI (w.setCell ⟨P, 1, none⟩ (.int .i64 i)) P d (.mk nd.op i nd.text nd.ty nd.kids) A c vs cs := by
 have hO := Only.set_ P 1 w (.int .i64 i)
 have hmv : ∀ b, (P < b ∧ some b ≠ vs.ownBlock) → b < w.heap.size → (P < b ∧ some b ≠ vs.ownBlock) ∧ ∀ o, (w.setCell ⟨P, 1, none⟩ (.int .i64 i)).cell? ⟨b, o, none⟩ = w.cell? ⟨b, o, none⟩ := fun b hb hl => ⟨hb, fun o => World.cell?_of_block (hO.block b hl (by simp; omega))⟩
 refine ⟨?_, ?_, ?_, fun j a ha => ?_⟩
 · refine hN.own.kept (row := some P) hO ?_
   cases e : vs.ownBlock with
   | none => exact .inl rfl
   | some g => exact .inr (fun e2 => by have := (hN.own.lt g e).1; injection e2; omega)
 · have h := hN.box
   simp [World.setCell, Array.getElem?_modify, h, Nd.op, Nd.int, Nd.text, Nd.ty]
 · obtain ⟨dt, ht⟩ := hN.ty
   exact ⟨dt, TyAt.move hmv dt _ _ ht⟩
 · obtain ⟨x0, x1, x2, x3, x4, x5, e0, e1, e2, e3, e4, e5, hx⟩ := hN.args j a ha
   exact ⟨x0, x1, x2, x3, x4, x5, e0, e1, e2, e3, e4, e5, NdAt.move hmv d _ _ hx⟩
theorem Kp.set_ {R P : Nat} {w W : World} (h : Kp R P w W) (i : Nat) (u : Value) : Kp R P w (W.setCell ⟨P, i, none⟩ u) :=
 h.trans ⟨rfl, rfl, rfl, by simp [World.setCell], fun j hj _ => Below.heap_setCell W _ u j (by show j ≠ P; omega)⟩
end Go.Proofs.YtaecndmncpfpfaaGreatDoor
namespace Go.Proofs.YtaecndmncpfpfaaGreatDoor
open Go.RowKit
theorem part_dg (kp : List UInt8 → Nat × Option Ty) (f : Nat → Nat × Option Nd) (l : List UInt8) (m : Nat) (nd : Nd) : partR kp f l 100 m nd = bindP (digR l (skip l m)) fun m' i => (m', some (.mk nd.op i nd.text nd.ty nd.kids)) := by
 unfold partR
 rw [if_pos rfl]
theorem DgOut.parts {R m : Nat} {s : ByteArray} {w w' : World} {e : Ending} (h : DgOut R s m w e w') : ∃ (i : Int) (g : Bool), e = .returned (.tuple #[.int .i64 i, .bool g]) ∧ Only R w w' ∧ Rdr w' R s (digR (bl s) m).1 ∧ g = (digR (bl s) m).2.isSome ∧ ∀ k, (digR (bl s) m).2 = some k → k = i := by
 unfold DgOut at h
 unfold digR
 by_cases hd : isDig (lkB (bl s) m) = true
 · rw [if_pos hd] at h
   rw [if_pos hd]
   exact ⟨_, true, h.1, h.2.1, h.2.2, rfl, fun k hk => by cases hk; rfl⟩
 · rw [if_neg hd] at h
   rw [if_neg hd]
   exact ⟨_, false, h.1, h.2.1, h.2.2, rfl, fun k hk => by cases hk⟩
set_option maxRecDepth 100000 in
set_option maxHeartbeats 4000000 in
theorem part_digit (kp : List UInt8 → Nat × Option Ty) (f : Nat → Nat × Option Nd) (d R P : Nat) (s : ByteArray) (m : Nat) (room : Int) (nd : Nd) (A : Option Addr) (c : Nat) (vs : Value) (cs : List Value) (w : World) (h : Rdr w R s m) (hN : PnI w P (d + 1) nd A c vs cs) (hRP : R < P) :
    Calls Tryz.prog 162 #[.pointer (some ⟨R, 0, none⟩), .pointer (some ⟨P, 0, none⟩), .int .u8 100, .int .i64 room] w fun e w' => POut (d + 1) R P s vs w e w' (partR kp f (bl s) 100 m nd) := by
 have hRl := h.lt
 have hPl := zC hN.box
 have HR := Lib.hid h
 have HN := Lib.hid hN
 clear h hN
 go_enter Tryz.func162, Tryz.ntmps162
 go_wp2_with (fail)
 refine (skip_any R s m w HR.out).mono ?_
 rintro e w1 ⟨⟨v, rfl⟩, ho, hr⟩
 have HO1 := Lib.hid ho
 have HR1 := Lib.hid hr
 have hs1 := ho.size
 have hba := (Below.refl w1.heap.size w1).alloc (Nat.le_refl _) (.cells #[.string ⟨#[]⟩, .int .i64 0, .string ⟨#[]⟩, .int .i64 0, .slice none 0 0, .slice none 0 0] 41)
 have HR2 := Lib.hid (HR1.out.below hba)
 clear ho hr
 go_wp2_with (fail)
 obtain ⟨w2, hw2⟩ : ∃ w2, w2 = w1.alloc (.cells #[.string ⟨#[]⟩, .int .i64 0, .string ⟨#[]⟩, .int .i64 0, .slice none 0 0, .slice none 0 0] 41) := ⟨_, rfl⟩
 have hs2 : w2.heap.size = w1.heap.size + 1 := by rw [hw2]; simp
 rw [← hw2] at hba HR2
 rw [← hw2]
 clear hw2
 refine (readDigit_any R s _ w2 HR2.out).mono ?_
 intro e w3 h3
 obtain ⟨i, good, rfl, ho3, hr3, hgood, hv3⟩ := h3.parts
 have HV3 := Lib.hid hv3
 have HR3 := Lib.hid hr3
 have HG := Lib.hid hgood
 have hs3 := ho3.size
 have HO3 : Hid (Only R w w3) := (HO1.out.trans (Only.of_below hba)).trans ho3
 have HP3 := Lib.hid (HN.out.only hRP HO3.out)
 have y1 := zR HP3.out.box
 have yf := zB HP3.out.box 1
 have yl := zC HP3.out.box
 clear hv3 hr3 hgood h3 ho3
 go_wp2_with (fail)
 refine bodyPost_ret (v := .bool good) (by simp [results, Tryz.results162, go_sem]) rfl ?_
 have hpn := HP3.out.int i
 have hbx := hpn.boxN
 have hkp := (Kv.of_only (P := P) (vs := vs) HO3.out).set_ 1 (.int .i64 i)
 have hrd : Rdr (w3.setCell ⟨P, 1, none⟩ (.int .i64 i)) R s (digR (bl s) (skip (bl s) m)).1 := Rdr.far (p := ⟨P, 1, none⟩) (by show R ≠ P; omega) HR3.out
 have hv := HV3.out
 have hg := HG.out
 rw [part_dg]
 match hq : digR (bl s) (skip (bl s) m), hrd, hv, hg with
 | (m', none), hrd, _, hg => exact ⟨by rw [hg]; rfl, hkp, hrd, hbx, fun nd hnd => by cases hnd⟩
 | (m', some k), hrd, hv, hg =>
   have hki := hv k rfl
   subst hki
   exact ⟨by rw [hg]; rfl, hkp, hrd, hbx, fun nd' hnd => by cases hnd; exact ⟨A, c, vs, cs, hpn, .inl rfl⟩⟩
end Go.Proofs.YtaecndmncpfpfaaGreatDoor
namespace Go.Proofs.YtaecndmncpfpfaaGreatDoor
open Go.RowKit
def TOut (R : Nat) (s : ByteArray) (w : World) (e : Ending) (w' : World) (p : Nat × Option Ty) : Prop :=
 ∃ (i : Int) (A : Option Addr) (n c : Nat) (g : Bool), e = .returned (.tuple #[.agg #[.int .i64 i, .slice A n c], .bool g]) ∧ Only R w w' ∧ Rdr w' R s p.1 ∧ g = p.2.isSome ∧ ∀ t, p.2 = some t → i = t.kind ∧ n = t.args.length ∧ ∃ dt, TyAt w' (fun b => w.heap.size ≤ b) dt (.agg #[.int .i64 t.kind, .slice A t.args.length c]) t
theorem part_ty (kp : List UInt8 → Nat × Option Ty) (f : Nat → Nat × Option Nd) (l : List UInt8) (m : Nat) (nd : Nd) : partR kp f l 116 m nd = bindP (typR kp l (skip l m)) fun m' t => (m', some (.mk nd.op nd.int nd.text t nd.kids)) := by
 unfold partR
 rw [if_neg (by decide), if_pos rfl]
theorem PnI.type {w0 : Nat} {w : World} {P d c c' : Nat} {nd : Nd} {A A' : Option Addr} {vs : Value} {cs : List Value} {t : Ty} {dt : Nat} (hN : PnI w P d nd A c vs cs) (h0 : ∀ b, w0 ≤ b → P < b ∧ some b ≠ vs.ownBlock) (ht : TyAt w (fun b => w0 ≤ b) dt (.agg #[.int .i64 t.kind, .slice A' t.args.length c']) t) :
    PnI ((w.setCell ⟨P, 3, none⟩ (.int .i64 t.kind)).setCell ⟨P, 4, none⟩ (.slice A' t.args.length c')) P d (.mk nd.op nd.int nd.text t nd.kids) A' c' vs cs := by
 have hO := (Only.set_ P 3 w (.int .i64 t.kind)).trans (Only.set_ P 4 _ (.slice A' t.args.length c'))
 have hmv : ∀ b, (P < b ∧ some b ≠ vs.ownBlock) → b < w.heap.size → (P < b ∧ some b ≠ vs.ownBlock) ∧ ∀ o, ((w.setCell ⟨P, 3, none⟩ (.int .i64 t.kind)).setCell ⟨P, 4, none⟩ (.slice A' t.args.length c')).cell? ⟨b, o, none⟩ = w.cell? ⟨b, o, none⟩ := fun b hb hl => ⟨hb, fun o => World.cell?_of_block (hO.block b hl (by simp; omega))⟩
 refine ⟨?_, ?_, ?_, fun j a ha => ?_⟩
 · refine hN.own.kept (row := some P) hO ?_
   cases e : vs.ownBlock with
   | none => exact .inl rfl
   | some g => exact .inr (fun e2 => by have := (hN.own.lt g e).1; injection e2; omega)
 · have h := hN.box
   simp [World.setCell, Array.getElem?_modify, h, Nd.op, Nd.int, Nd.text, Nd.ty]
 · exact ⟨dt, TyAt.move (fun b hb hl => hmv b (h0 b hb) hl) dt _ _ ht⟩
 · obtain ⟨x0, x1, x2, x3, x4, x5, e0, e1, e2, e3, e4, e5, hx⟩ := hN.args j a ha
   exact ⟨x0, x1, x2, x3, x4, x5, e0, e1, e2, e3, e4, e5, NdAt.move hmv d _ _ hx⟩
set_option maxRecDepth 100000 in
set_option maxHeartbeats 4000000 in
theorem part_type (kp : List UInt8 → Nat × Option Ty) (f : Nat → Nat × Option Nd) (d R P : Nat) (s : ByteArray) (m : Nat) (room : Int) (nd : Nd) (A : Option Addr) (c : Nat) (vs : Value) (cs : List Value) (w : World) (h : Rdr w R s m) (hN : PnI w P (d + 1) nd A c vs cs) (hRP : R < P) (G : World → Prop) (hGo : ∀ w w', Only R w w' → G w → G w') (hGw : G w) (hT : ∀ (m : Nat) (w : World), G w → Rdr w R s m → Calls Tryz.prog 177 #[.pointer (some ⟨R, 0, none⟩)] w fun e w' => TOut R s w e w' (typR kp (bl s) m)) :
    Calls Tryz.prog 162 #[.pointer (some ⟨R, 0, none⟩), .pointer (some ⟨P, 0, none⟩), .int .u8 116, .int .i64 room] w fun e w' => POut (d + 1) R P s vs w e w' (partR kp f (bl s) 116 m nd) := by
 have hRl := h.lt
 have hPl := zC hN.box
 have HR := Lib.hid h
 have HN := Lib.hid hN
 have HGO := Lib.hid hGo
 have HGW := Lib.hid hGw
 clear h hN hGo hGw
 go_enter Tryz.func162, Tryz.ntmps162
 go_wp2_with (fail)
 refine (skip_any R s m w HR.out).mono ?_
 rintro e w1 ⟨⟨v, rfl⟩, ho, hr⟩
 have HO1 := Lib.hid ho
 have HR1 := Lib.hid hr
 have hs1 := ho.size
 have hba := (Below.refl w1.heap.size w1).alloc (Nat.le_refl _) (.cells #[.string ⟨#[]⟩, .int .i64 0, .string ⟨#[]⟩, .int .i64 0, .slice none 0 0, .slice none 0 0] 41)
 have HR2 := Lib.hid (HR1.out.below hba)
 clear ho hr
 go_wp2_with (fail)
 obtain ⟨w2, hw2⟩ : ∃ w2, w2 = w1.alloc (.cells #[.string ⟨#[]⟩, .int .i64 0, .string ⟨#[]⟩, .int .i64 0, .slice none 0 0, .slice none 0 0] 41) := ⟨_, rfl⟩
 have hs2 : w2.heap.size = w1.heap.size + 1 := by rw [hw2]; simp
 rw [← hw2] at hba HR2
 rw [← hw2]
 clear hw2
 refine (hT _ w2 (HGO.out _ _ (HO1.out.trans (Only.of_below hba)) HGW.out) HR2.out).mono ?_
 intro e w3 h3
 obtain ⟨i, A2, n2, c2, good, rfl, ho3, hr3, hgood, hv3⟩ := h3
 have HV3 := Lib.hid hv3
 have HR3 := Lib.hid hr3
 have HG := Lib.hid hgood
 have hs3 := ho3.size
 have HO3 : Hid (Only R w w3) := (HO1.out.trans (Only.of_below hba)).trans ho3
 have HP3 := Lib.hid (HN.out.only hRP HO3.out)
 have y3 := zP HP3.out.box
 have y4 := zO HP3.out.box
 have yf3 := zB HP3.out.box 3
 have yf4 := zB HP3.out.box 4
 have yl := zC HP3.out.box
 clear hv3 hr3 hgood ho3
 go_wp2_with (fail)
 refine bodyPost_ret (v := .bool good) (by simp [results, Tryz.results162, go_sem]) rfl ?_
 have hkp := ((Kv.of_only (P := P) (vs := vs) HO3.out).set_ 3 (.int .i64 i)).set_ 4 (.slice A2 n2 c2)
 have hrd : Rdr ((w3.setCell ⟨P, 3, none⟩ (.int .i64 i)).setCell ⟨P, 4, none⟩ (.slice A2 n2 c2)) R s (typR kp (bl s) (skip (bl s) m)).1 := Rdr.far (p := ⟨P, 4, none⟩) (by show R ≠ P; omega) (Rdr.far (p := ⟨P, 3, none⟩) (by show R ≠ P; omega) HR3.out)
 have hbx : BoxN ((w3.setCell ⟨P, 3, none⟩ (.int .i64 i)).setCell ⟨P, 4, none⟩ (.slice A2 n2 c2)) P := by
  obtain ⟨o, i0, t0, k0, A0, n0, c0, K0, m0, e0, hb⟩ := HP3.out.boxN
  exact ⟨o, i0, t0, i, A2, n2, c2, K0, m0, e0, by simp [World.setCell, Array.getElem?_modify, hb]⟩
 have hv := HV3.out
 have hg := HG.out
 rw [part_ty]
 match hq : typR kp (bl s) (skip (bl s) m), hrd, hv, hg with
 | (m', none), hrd, _, hg => exact ⟨by rw [hg]; rfl, hkp, hrd, hbx, fun nd hnd => by cases hnd⟩
 | (m', some t), hrd, hv, hg =>
   obtain ⟨hki, hkn, dt, ht⟩ := hv t rfl
   subst hki
   subst hkn
   refine ⟨by rw [hg]; rfl, hkp, hrd, hbx, fun nd' hnd => ?_⟩
   cases hnd
   exact ⟨A2, c2, vs, cs, HP3.out.type (w0 := w2.heap.size) (fun b hb => ⟨by have := HO1.out.size; omega, fun e => by have := (HN.out.own.lt b e.symm).2; have := HO1.out.size; omega⟩) ht, .inl rfl⟩
end Go.Proofs.YtaecndmncpfpfaaGreatDoor
namespace Go.Proofs.YtaecndmncpfpfaaGreatDoor
open Go.RowKit
theorem part_ex (kp : List UInt8 → Nat × Option Ty) (f : Nat → Nat × Option Nd) (l : List UInt8) (m : Nat) (nd : Nd) : partR kp f l 101 m nd = bindP (f (skip l m)) fun m' k => (m', some (.mk nd.op nd.int nd.text nd.ty (nd.kids ++ [k]))) := by
 unfold partR
 rw [if_neg (by decide), if_neg (by decide), if_neg (by decide)]
set_option maxRecDepth 100000 in
set_option maxHeartbeats 4000000 in
theorem part_expr (kp : List UInt8 → Nat × Option Ty) (f : Nat → Nat × Option Nd) (d R P : Nat) (s : ByteArray) (m : Nat) (room : Int) (G : World → Prop) (hGo : ∀ w w', Only R w w' → G w → G w') (hX : ∀ (m : Nat) (w : World), G w → Rdr w R s m → Calls Tryz.prog 53 #[.pointer (some ⟨R, 0, none⟩), .int .i64 room] w fun e w' => NOut (d + 1) R s w e w' (f m)) (nd : Nd) (A : Option Addr) (c : Nat) (vs : Value) (cs : List Value) (w : World) (hGw : G w) (h : Rdr w R s m) (hN : PnI w P (d + 1) nd A c vs cs) (hRP : R < P) (hk : nd.kids.length ≤ 1000) :
    Calls Tryz.prog 162 #[.pointer (some ⟨R, 0, none⟩), .pointer (some ⟨P, 0, none⟩), .int .u8 101, .int .i64 room] w fun e w' => POut (d + 1) R P s vs w e w' (partR kp f (bl s) 101 m nd) := by
 obtain ⟨i0, hi, hq0, hq1, hq2⟩ := info_parts info28
 have hRl := h.lt
 have hPl := zC hN.box
 have HR := Lib.hid h
 have HN := Lib.hid hN
 have HGO := Lib.hid hGo
 have HGW := Lib.hid hGw
 clear h hN hGo hGw
 go_enter Tryz.func162, Tryz.ntmps162
 go_wp2_with (fail)
 refine (skip_any R s m w HR.out).mono ?_
 rintro e w1 ⟨⟨v, rfl⟩, ho, hr⟩
 have HO1 := Lib.hid ho
 have HR1 := Lib.hid hr
 have hs1 := ho.size
 have hba := (Below.refl w1.heap.size w1).alloc (Nat.le_refl _) (.cells #[.string ⟨#[]⟩, .int .i64 0, .string ⟨#[]⟩, .int .i64 0, .slice none 0 0, .slice none 0 0] 41)
 have HR2 := Lib.hid (HR1.out.below hba)
 have HK2 := Lib.hid (heap_alloc_new w1 (.cells #[.string ⟨#[]⟩, .int .i64 0, .string ⟨#[]⟩, .int .i64 0, .slice none 0 0, .slice none 0 0] 41))
 clear ho hr
 go_wp2_with (fail)
 obtain ⟨w2, hw2⟩ : ∃ w2, w2 = w1.alloc (.cells #[.string ⟨#[]⟩, .int .i64 0, .string ⟨#[]⟩, .int .i64 0, .slice none 0 0, .slice none 0 0] 41) := ⟨_, rfl⟩
 have hs2 : w2.heap.size = w1.heap.size + 1 := by rw [hw2]; simp
 rw [← hw2] at hba HR2 HK2
 rw [← hw2]
 clear hw2
 refine (hX _ w2 (HGO.out _ _ (HO1.out.trans (Only.of_below hba)) HGW.out) HR2.out).mono ?_
 intro e w3 h3
 obtain ⟨k0, k1, k2, k3, KA, kn, kc, KK, km, kk, good, rfl, ho3, hr3, hgood, hv3⟩ := h3.parts
 have HV3 := Lib.hid hv3
 have HR3 := Lib.hid hr3
 have HG := Lib.hid hgood
 have hs3 := ho3.size
 have HK3 := Lib.hid ((ho3.block w1.heap.size (by omega) (by simp; omega)).trans HK2.out)
 have hkb0 := zN HK3.out
 have hkb1 := zR HK3.out
 have hkb2 := zQ HK3.out
 have hkb3 := zP HK3.out
 have hkb4 := zO HK3.out
 have hkb5 := zL HK3.out
 have hkf0 := zB HK3.out 0
 have hkf1 := zB HK3.out 1
 have hkf2 := zB HK3.out 2
 have hkf3 := zB HK3.out 3
 have hkf4 := zB HK3.out 4
 have hkf5 := zB HK3.out 5
 have hkl := zC HK3.out
 clear hv3 hr3 hgood h3
 go_upto_region 14 with (fail)
 obtain ⟨Av, cv, hvs⟩ := own_slice HN.out.own
 subst hvs
 have hP2 := (ho3.block P (by omega) (by simp; omega)).trans ((hba.block P (by omega)).trans (HO1.out.block P hPl (by simp; omega)))
 have HN3 := Lib.hid (hP2.trans HN.out.box)
 have HO3 : Hid (Only R w w3) := (HO1.out.trans (Only.of_below hba)).trans ho3
 obtain ⟨W, hW⟩ : ∃ W, W = ((((((w3.setCell ⟨w1.heap.size, 0, none⟩ (.string k0)).setCell ⟨w1.heap.size, 1, none⟩ (.int .i64 k1)).setCell ⟨w1.heap.size, 2, none⟩ (.string k2)).setCell ⟨w1.heap.size, 3, none⟩ (.int .i64 k3)).setCell ⟨w1.heap.size, 4, none⟩ (.slice KA kn kc)).setCell ⟨w1.heap.size, 5, none⟩ (.slice KK km kk)) := ⟨_, rfl⟩
 have HKW := put6_heap (b0 := .string k0) (b1 := .int .i64 k1) (b2 := .string k2) (b3 := .int .i64 k3) (b4 := .slice KA kn kc) (b5 := .slice KK km kk) HK3.out
 have HPW := (set6_block (w := w3) (g := w1.heap.size) (b := P) (b0 := .string k0) (b1 := .int .i64 k1) (b2 := .string k2) (b3 := .int .i64 k3) (b4 := .slice KA kn kc) (b5 := .slice KK km kk) (by omega)).trans HN3.out
 have O6 : Only w1.heap.size w3 W := by rw [hW]; exact put6_only
 have hsW : W.heap.size = w3.heap.size := by rw [hW]; simp
 rw [← hW] at HKW HPW
 rw [← hW]
 have HOW0 : Hid (Only R w W) := ⟨O6.os.trans HO3.out.os, O6.tape.trans HO3.out.tape, O6.output.trans HO3.out.output, by have := HO3.out.size; omega, fun b hb hne => (O6.block b (by omega) (by simp; omega)).trans (HO3.out.block b hb hne)⟩
 have HRW : Hid (Rdr W R s (f (skip (bl s) m)).1) := ⟨(O6.block R (by omega) (by simp; omega)).trans HR3.out.box, HR3.out.le, HR3.out.len⟩
 have HVW : Hid (∀ k, (f (skip (bl s) m)).2 = some k → NdAt W (fun b => w.heap.size ≤ b) (d + 1) (.agg #[.string k0, .int .i64 k1, .string k2, .int .i64 k3, .slice KA kn kc, .slice KK km kk]) k) := fun k hk => NdAt.move (fun b hb hl => ⟨by omega, fun o => World.cell?_of_block (O6.block b hl (by simp; omega))⟩) (d + 1) _ _ (HV3.out k hk)
 have HOW1 : Hid (W.ownsRow (P + 1) 41 6 (.slice Av nd.kids.length cv) nd.kids.length cs) := HN.out.own.kept (row := some R) HOW0.out (.inr (fun e => by have := (HN.out.own.lt R e).1; omega))
 have HKO : Hid (∀ k, (Value.slice Av nd.kids.length cv).ownBlock = some k → P + 1 ≤ k ∧ k ≠ w1.heap.size) := fun k hk => by have := HN.out.own.lt k hk; exact ⟨this.1, by omega⟩
 clear hW hkb0 hkb1 hkb2 hkb3 hkb4 hkb5 hkf0 hkf1 hkf2 hkf3 hkf4 hkf5 hkl hP2 O6
 generalize w1.heap.size = KB at *
 have HSW := Lib.hid hsW
 have HKW' := Lib.hid HKW
 have HPW' := Lib.hid HPW
 have hkl := zC HKW
 have hpl := zC HPW
 have hKP : P ≠ KB := by omega
 clear HKW HPW hsW
 have x0 := zN HKW'.out
 have x1 := zR HKW'.out
 have x2 := zQ HKW'.out
 have x3 := zP HKW'.out
 have x4 := zO HKW'.out
 have x5 := zL HKW'.out
 obtain ⟨n, hn⟩ : ∃ n, n = nd.kids.length := ⟨_, rfl⟩
 have HOW : Hid (W.ownsRow (P + 1) 41 6 (.slice Av n cv) n cs) := by rw [hn]; exact HOW1
 have HP0 : Hid (W.heap[P]? = some (.cells #[.string ⟨nd.op.toArray⟩, .int .i64 nd.int, .string ⟨nd.text.toArray⟩, .int .i64 nd.ty.kind, .slice A nd.ty.args.length c, .slice Av n cv] 41 (0, 0))) := by rw [hn]; exact HPW'
 clear HOW1 HPW'
 have HPW' := HP0
 have y5 := zL HPW'.out
 have yf := zB HPW'.out 5
 rw [← hn] at hk HKO
 have HNN := Lib.hid hn
 clear hn
 have hnn : (n : Int) < (n : Int) + 1 := by omega
 have hcl : cs.length = n * 6 := HOW.out.1
 have HCL := Lib.hid hcl
 clear hcl
 go_region_law (first | (refine step_append_lies _ (by rfl) _ _ _ (by rfl) (P + 1) 41 i0 _ 6 96 Tryz.underlying39 hi hq0 hq1 hq2 rfl (by omega) (.slice Av n cv) n cs (by rfl) ((HOW.out.alloc _).drew) ⟨W.heap.size, 0, none⟩ 1 1 [.string ⟨#[]⟩, .int .i64 0, .string ⟨#[]⟩, .int .i64 0, .slice none 0 0, .slice none 0 0] (by rfl) (by rfl) (World.news_of_block (cs := #[.string ⟨#[]⟩, .int .i64 0, .string ⟨#[]⟩, .int .i64 0, .slice none 0 0, .slice none 0 0]) (t := 41) (fr := (0, 0)) (heap_alloc_new W _)) (by simp [Value.oneCell']) (by omega) (by unfold maxLen; omega) (by omega) (by simp; omega) (W.heap.size + 1) (by simp) ?_; intro gg cap w7 hown7 hg7 hat7 hlt7; have hgP : gg ≠ P := (by have := (hown7.lt gg rfl).1; omega); have z0 := own_cell hown7 HCL.out (i := 0) rfl (by omega); have z1 := own_cell hown7 HCL.out (i := 1) rfl (by omega); have z2 := own_cell hown7 HCL.out (i := 2) rfl (by omega); have z3 := own_cell hown7 HCL.out (i := 3) rfl (by omega); have z4 := own_cell hown7 HCL.out (i := 4) rfl (by omega); have z5 := own_cell hown7 HCL.out (i := 5) rfl (by omega); simp only [Nat.add_zero] at z0; have q0 := own_frz hown7 (n * 6); have q1 := own_frz hown7 (n * 6 + 1); have q2 := own_frz hown7 (n * 6 + 2); have q3 := own_frz hown7 (n * 6 + 3); have q4 := own_frz hown7 (n * 6 + 4); have q5 := own_frz hown7 (n * 6 + 5); have hP7 : w7.heap[P]? = _ := ((hg7.block P (by simp; omega) (fun e => by have := (HKO.out P e.symm).1; omega)).trans (Below.heap_alloc W _ P hpl)).trans HPW'.out; have y57 := zL hP7; have yf7 := zB hP7 5; have hpl7 := zC hP7) | fail)
 all_goals (
  have hgd : (W.alloc (.cells #[.string ⟨#[]⟩, .int .i64 0, .string ⟨#[]⟩, .int .i64 0, .slice none 0 0, .slice none 0 0] 41)).grownBy w7 (Value.slice Av n cv).ownBlock := ⟨hg7.os, hg7.tape, hg7.output, hg7.size, hg7.block⟩
  first
   | (have hA := aft_mk HOW.out hpl hgd hown7 hat7 (.string k0) (.int .i64 k1) (.string k2) (.int .i64 k3) (.slice KA kn kc) (.slice KK km kk)
      obtain ⟨wx, hwx⟩ : ∃ wx, wx = (((((((w7.setCell ⟨gg, n * 6, none⟩ (.string k0)).setCell ⟨gg, n * 6 + 1, none⟩ (.int .i64 k1)).setCell ⟨gg, n * 6 + 2, none⟩ (.string k2)).setCell ⟨gg, n * 6 + 3, none⟩ (.int .i64 k3)).setCell ⟨gg, n * 6 + 4, none⟩ (.slice KA kn kc)).setCell ⟨gg, n * 6 + 5, none⟩ (.slice KK km kk)).setCell ⟨P, 5, none⟩ (.slice (some ⟨gg, 0, none⟩) (n + 1) cap)) := ⟨_, rfl⟩
      rw [← hwx] at hA ⊢
      have HA := Lib.hid hA
      clear hA hwx)
   | (have hA := aft_mk2 HOW.out hpl hgd hown7 hat7 (.string k0) (.int .i64 k1) (.string k2) (.int .i64 k3) (.slice KA kn kc) (.slice KK km kk)
      obtain ⟨wx, hwx⟩ : ∃ wx, wx = (((((((w7.setCell ⟨P, 5, none⟩ (.slice (some ⟨gg, 0, none⟩) (n + 1) cap)).setCell ⟨gg, n * 6, none⟩ (.string k0)).setCell ⟨gg, n * 6 + 1, none⟩ (.int .i64 k1)).setCell ⟨gg, n * 6 + 2, none⟩ (.string k2)).setCell ⟨gg, n * 6 + 3, none⟩ (.int .i64 k3)).setCell ⟨gg, n * 6 + 4, none⟩ (.slice KA kn kc)).setCell ⟨gg, n * 6 + 5, none⟩ (.slice KK km kk)) := ⟨_, rfl⟩
      rw [← hwx] at hA ⊢
      have HA := Lib.hid hA
      clear hA hwx)
  clear hgd hg7 hown7 hat7 hlt7 z0 z1 z2 z3 z4 z5 q0 q1 q2 q3 q4 q5 hP7 y57 yf7 hpl7 x0 x1 x2 x3 x4 x5 y5 yf hnn
  go_wp2_with (fail)
  refine bodyPost_ret (v := .bool good) (by simp [results, Tryz.results162, go_sem]) rfl ?_
  rw [part_ex, HG.out]
  have hA := HA.out
  rw [HNN.out] at hA
  exact pout_kid HN.out hRP HOW0.out hA HRW.out HVW.out)
