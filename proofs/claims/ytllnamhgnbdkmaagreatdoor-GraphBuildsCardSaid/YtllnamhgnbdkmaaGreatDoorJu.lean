/-
Stage 11: readNumber, readPlace, readText, readType. Stage 11: readFn, readTrig: structs read field by field. Stage 11: readSides, readNode.
-/
import Derived.Test.YtllnamhgnbdkmaaGreatDoorKp
set_option linter.unusedVariables false
set_option linter.unusedSimpArgs false
namespace Go.Proofs.YtllnamhgnbdkmaaGreatDoor
open Go.RowKit Go.Shelf
theorem only_base {w0 w w' : World} {R : Nat} (hb : Below w0.heap.size w0 w) (hR : w0.heap.size ≤ R) (ho : Only R w w') : Below w0.heap.size w0 w' := hb.trans (ho.below hR hb.size)
theorem IntsAt.only {w w' : World} {R : Nat} {S : Nat → Prop} {v : Value} {l : List Int} (h : IntsAt w S v l) (hS : ∀ b, S b → b ≠ R) (ho : Only R w w') : IntsAt w' S v l :=
  h.move fun b hb hl => ⟨hb, Nat.lt_of_lt_of_le hl ho.size, fun o => World.cell?_of_block (ho.block b hl (fun e => hS b hb (Option.some.inj e)))⟩
theorem IntsAt.one (w : World) (B : Nat) (n : Int) (t : TypeId) (hB : B ≤ w.heap.size) : IntsAt (w.alloc (.cells #[.int .i64 n] t)) (fun b => B ≤ b) (.slice (some ⟨w.heap.size, 0, none⟩) 1 1) [n] :=
  ⟨_, 1, rfl, Nat.le_refl _, (fun h => by cases h), fun _ => ⟨w.heap.size, 0, rfl, hB, by simp, fun j x hx => by
    obtain rfl : j = 0 := by have := (List.getElem?_eq_some_iff.1 hx).1; simp at this; omega
    have h2 := heap_alloc_new w (.cells #[.int .i64 n] t)
    rw [Nat.add_zero]
    cases hx
    exact cellN h2 rfl⟩⟩
set_option maxRecDepth 100000 in
theorem readNumber_any (w0 w : World) (R P : Nat) (p : List UInt8) (l : List (List UInt8)) (f : Bool) (hG : Gk w0) (hb : Below w0.heap.size w0 w) (hR : w0.heap.size ≤ R) (hs : p.length ≤ 1000000) (h : RdL w R P (p :: l) f) :
    Calls Tryz.prog 132 #[.pointer (some ⟨R, 0, none⟩)] w fun e w' => (∃ n, e = .returned (.int .i64 n) ∧ ∀ v, goodN p 9999999 = some v → n = v) ∧ RdL w' R P l (f || !(goodN p 9999999).isSome) ∧ Only R w w' := by
  have HN := Lib.hid (next_any w R P p l f h)
  have HC : Hid (∀ W, Only R w W → Calls Tryz.prog 131 #[.string ⟨p.toArray⟩, .int .i64 9999999] W fun e w' => (∃ n, e = .returned (.tuple #[.int .i64 n, .bool (goodN p 9999999).isSome]) ∧ ∀ v, goodN p 9999999 = some v → n = v) ∧ Below W.heap.size W w') := Lib.hid fun W ho => numberOf_any p 9999999 W hs (by omega) (hG.below (only_base hb hR ho))
  clear hG hb hs h
  go_enter Tryz.func132, Tryz.ntmps132
  go_wp2_with (first
    | (go_at_call 111; (with_reducible refine HN.out.mono ?_); rintro e w1 ⟨rfl, hr1, ho1⟩; have HR1 := Lib.hid hr1; have HO1 := Lib.hid ho1; clear hr1 ho1)
    | (go_at_call 131; (with_reducible refine (HC.out _ HO1.out).mono ?_); rintro e w2 ⟨⟨n, rfl, hv⟩, hb2⟩; have HV := Lib.hid hv; have HR2 := Lib.hid (HR1.out.below (hb2.mono (Nat.le_refl _))); have HO2 := Lib.hid (only_bl HO1.out hb2); clear hv hb2)
    | (go_at_call 130; (with_reducible refine (need_any _ R P l f _ HR2.out).mono ?_); rintro e w3 ⟨rfl, hr3, ho3⟩; have HR3 := Lib.hid hr3; have HO3 := Lib.hid (HO2.out.trans ho3); clear hr3 ho3)
    | fail)
  go_ret
  exact ⟨⟨n, rfl, HV.out⟩, HR3.out, HO3.out⟩
set_option maxRecDepth 100000 in
theorem readPlace_any (w0 w : World) (R P : Nat) (p : List UInt8) (l : List (List UInt8)) (f : Bool) (hG : Gk w0) (hb : Below w0.heap.size w0 w) (hR : w0.heap.size ≤ R) (hs : p.length ≤ 1000000) (h : RdL w R P (p :: l) f) :
    Calls Tryz.prog 105 #[.pointer (some ⟨R, 0, none⟩)] w fun e w' => (∃ A n, e = .returned (.slice A 1 1) ∧ (∀ v, goodN p 999 = some v → n = v) ∧ IntsAt w' (fun b => w.heap.size ≤ b) (.slice A 1 1) [n]) ∧ RdL w' R P l (f || !(goodN p 999).isSome) ∧ Only R w w' := by
  have HN := Lib.hid (next_any w R P p l f h)
  have HC : Hid (∀ W, Only R w W → Calls Tryz.prog 131 #[.string ⟨p.toArray⟩, .int .i64 999] W fun e w' => (∃ n, e = .returned (.tuple #[.int .i64 n, .bool (goodN p 999).isSome]) ∧ ∀ v, goodN p 999 = some v → n = v) ∧ Below W.heap.size W w') := Lib.hid fun W ho => numberOf_any p 999 W hs (by omega) (hG.below (only_base hb hR ho))
  clear hG hb hs h
  go_enter Tryz.func105, Tryz.ntmps105
  go_wp2_with (first
    | (go_at_call 111; (with_reducible refine HN.out.mono ?_); rintro e w1 ⟨rfl, hr1, ho1⟩; have HR1 := Lib.hid hr1; have HO1 := Lib.hid ho1; clear hr1 ho1)
    | (go_at_call 131; (with_reducible refine (HC.out _ HO1.out).mono ?_); rintro e w2 ⟨⟨n, rfl, hv⟩, hb2⟩; have HV := Lib.hid hv; have HR2 := Lib.hid (HR1.out.below (hb2.mono (Nat.le_refl _))); have HO2 := Lib.hid (only_bl HO1.out hb2); clear hv hb2)
    | (go_at_call 130; (with_reducible refine (need_any _ R P l f _ HR2.out).mono ?_); rintro e w3 ⟨rfl, hr3, ho3⟩; have HR3 := Lib.hid hr3; have HO3 := Lib.hid (HO2.out.trans ho3); clear hr3 ho3)
    | fail)
  go_ret
  have hal := fun t : TypeId => (Below.refl w3.heap.size w3).alloc (Nat.le_refl _) (.cells #[.int .i64 n] t)
  refine ⟨⟨_, n, rfl, HV.out, IntsAt.one _ _ _ _ HO3.out.size⟩, HR3.out.below (hal _), only_bl HO3.out (hal _)⟩
set_option maxRecDepth 100000 in
theorem readText_any (w : World) (R P : Nat) (p : List UInt8) (l : List (List UInt8)) (f : Bool) (hs : p.length ≤ 1000000) (h : RdL w R P (p :: l) f) :
    Calls Tryz.prog 107 #[.pointer (some ⟨R, 0, none⟩)] w fun e w' => e = .returned (.string ⟨p.toArray⟩) ∧ RdL w' R P l (f || !isTx p) ∧ Only R w w' := by
  have HN := Lib.hid (next_any w R P p l f h)
  have hsz : (ByteArray.mk p.toArray).size = p.length := by simp [ByteArray.size]
  have HC := fun W : World => Lib.hid (clone_any ⟨p.toArray⟩ W (by omega))
  have HT := fun W : World => Lib.hid (isText_any p W)
  clear hs h hsz
  go_enter Tryz.func107, Tryz.ntmps107
  go_wp2_with (first
    | (go_at_call 111; (with_reducible refine HN.out.mono ?_); rintro e w1 ⟨rfl, hr1, ho1⟩; have HR1 := Lib.hid hr1; have HO1 := Lib.hid ho1; clear hr1 ho1)
    | (go_at_call 91; (with_reducible refine (HT _).out.mono ?_); rintro e w2 ⟨rfl, rfl⟩)
    | (go_at_call 130; (with_reducible refine (need_any _ R P l f _ HR1.out).mono ?_); rintro e w3 ⟨rfl, hr3, ho3⟩; have HR3 := Lib.hid hr3; have HO3 := Lib.hid (HO1.out.trans ho3); clear hr3 ho3)
    | (go_at_call 86; (with_reducible refine (HC _).out.mono ?_); rintro e w4 ⟨rfl, hb4⟩; have HR4 := Lib.hid (HR3.out.below hb4); have HO4 := Lib.hid (only_bl HO3.out hb4); clear hb4)
    | fail)
  go_ret
  exact ⟨rfl, HR4.out, HO4.out⟩
def tyZ : Ty := ⟨0, []⟩
theorem tyZ_at (w : World) (S : Nat → Prop) : TyAt w S 6 (.agg #[.int .i64 0, .slice none 0 0]) tyZ := ⟨none, 0, rfl, Nat.le_refl _, fun h => by cases h⟩
theorem RdL.ltP {w : World} {R P : Nat} {p : List UInt8} {l : List (List UInt8)} {f : Bool} (h : RdL w R P (p :: l) f) : P < w.heap.size := by
  obtain ⟨_, v, _, A, c, rfl, _, h2⟩ := h
  obtain ⟨b, o, _, rfl, hb, _⟩ := h2 (by simp)
  exact hb
def ReadTy (p : List UInt8) (t : Ty) : Prop := ∀ v, (Knd.parseT p).2 = some v → t = v
set_option maxRecDepth 100000 in
theorem readType_any (w0 w : World) (R P : Nat) (p : List UInt8) (l : List (List UInt8)) (f : Bool) (hG : Gk w0) (hb : Below w0.heap.size w0 w) (hR : w0.heap.size ≤ R) (hs : p.length ≤ 1000000) (h : RdL w R P (p :: l) f) :
    Calls Tryz.prog 104 #[.pointer (some ⟨R, 0, none⟩)] w fun e w' => (∃ A t c, e = .returned (.agg #[.int .i64 t.kind, .slice A t.args.length c]) ∧ ReadTy p t ∧ TyAt w' (fun b => w.heap.size ≤ b) 6 (.agg #[.int .i64 t.kind, .slice A t.args.length c]) t) ∧ RdL w' R P l (f || !(Knd.parseT p).2.isSome) ∧ Only R w w' := by
  have hRl := h.lt
  have hPl := h.ltP
  have hsz : (ByteArray.mk p.toArray).size = p.length := by simp [ByteArray.size]
  have hal := (Below.refl w.heap.size w).alloc (Nat.le_refl _) (.cells #[.int .i64 0, .slice none 0 0] 64)
  have HN := Lib.hid (next_any (w.alloc (.cells #[.int .i64 0, .slice none 0 0] 64)) R P p l f (h.below hal))
  have HP : Hid (∀ W, Only R (w.alloc (.cells #[.int .i64 0, .slice none 0 0] 64)) W → Calls Tryz.prog 129 #[.string ⟨p.toArray⟩] W fun e w' => Knd.PaOut W w' e (Knd.parseT p) ∧ Below W.heap.size W w') := Lib.hid fun W ho => Knd.parse_any ⟨p.toArray⟩ W (by omega) (hG.below (only_base (hb.trans (hal.mono hb.size)) hR ho)).kd
  have HX1 : Hid (∀ W, Only R (w.alloc (.cells #[.int .i64 0, .slice none 0 0] 64)) W → W.heap[w.heap.size]? = some (.cells #[.int .i64 0, .slice none 0 0] 64 (0, 0))) := Lib.hid fun W ho => (ho.block _ (by simp) (fun e => by have := Option.some.inj e; omega)).trans (heap_alloc_new w _)
  have HBR : Hid (R ≠ w.heap.size) := Lib.hid (by omega)
  have HBP : Hid (P ≠ w.heap.size) := Lib.hid (by omega)
  have HA0 := Lib.hid (Only.of_below (R := R) hal)
  clear hG hb hs h hsz hal hRl hPl
  cases hq : Knd.parseT p with
  | mk k o =>
  rw [hq] at HP
  have HQ := Lib.hid hq
  clear hq
  cases o with
  | none =>
    go_enter Tryz.func104, Tryz.ntmps104
    go_wp2_with (first
      | (go_at_call 111; (with_reducible refine HN.out.mono ?_); rintro e w1 ⟨rfl, hr1, ho1⟩; have HR1 := Lib.hid hr1; have HO1 := Lib.hid ho1; clear hr1 ho1)
      | (go_at_call 129; (with_reducible refine (HP.out _ HO1.out).mono ?_); rintro e w2 ⟨he, hb2⟩; (obtain rfl : e = Ending.returned (.tuple #[.agg #[.int .i64 0, .slice none 0 0], .int .i64 (k : Int), .int .i64 40]) := he); have HX2 := Lib.hid (bl_blk hb2 (HX1.out _ HO1.out)); have HR2 := Lib.hid ((HR1.out.below hb2).below ((Below.refl w2.heap.size w2).alloc (Nat.le_refl _) (.cells #[(.int .i64 0), (.slice none 0 0)] 64))); have HO2 := Lib.hid (only_bl (only_bl HO1.out hb2) ((Below.refl w2.heap.size w2).alloc (Nat.le_refl _) (.cells #[(.int .i64 0), (.slice none 0 0)] 64))); have HBI : Hid (R < w2.heap.size ∧ w.heap.size < w2.heap.size) := Lib.hid ⟨(HR1.out.below hb2).lt, cell_lt HX2.out⟩; clear hb2)
      | (go_at_call 130; (with_reducible refine (need_any _ R P l f _ HR2.out).mono ?_); rintro e w3 ⟨rfl, hr3, ho3⟩; have hz := (ho3.block w2.heap.size (by simp) (fun e => by have := Option.some.inj e; have := HBI.out; omega)).trans (heap_alloc_new w2 _); have z0 := cellN (i := 0) hz rfl; have z1 := cellN (i := 1) hz rfl; have hy := ((ho3.block w.heap.size (by have := HBI.out; simp; omega) (fun e => by have := Option.some.inj e; have := HBR.out; omega)).trans (Below.heap_alloc w2 _ _ HBI.out.2)).trans HX2.out; have y0 := cellN (i := 0) hy rfl; have y1 := cellN (i := 1) hy rfl; have y2 := frozN (i := 0) hy; have y3 := frozN (i := 1) hy; have HY := Lib.hid hy; have HR3 := Lib.hid hr3; have HO3 := Lib.hid ho3; clear hr3 ho3 hz hy)
      | fail)
    have hst := Knd.two_stored HY.out (.int .i64 0) (.slice none 0 0)
    have s0 := cellN (i := 0) hst rfl
    have s1 := cellN (i := 1) hst rfl
    refine bodyPost_ret (v := .agg #[.int .i64 0, .slice none 0 0]) (by simp [results, Tryz.results104, go_sem, s0, s1]) rfl ?_
    have hrd := (HR3.out.far (i := 0) HBR.out HBP.out (.int .i64 0)).far (i := 1) HBR.out HBP.out (.slice none 0 0)
    have hon := Only.far (p := ⟨w.heap.size, 1, none⟩) (u := .slice none 0 0) (Nat.le_refl _) (Only.far (p := ⟨w.heap.size, 0, none⟩) (u := .int .i64 0) (Nat.le_refl _) ((HA0.out.trans HO2.out).trans HO3.out))
    exact ⟨⟨none, tyZ, 0, rfl, (fun v hv => by rw [HQ.out] at hv; cases hv), tyZ_at _ _⟩, hrd, hon⟩
  | some t =>
    go_enter Tryz.func104, Tryz.ntmps104
    go_wp2_with (first
      | (go_at_call 111; (with_reducible refine HN.out.mono ?_); rintro e w1 ⟨rfl, hr1, ho1⟩; have HR1 := Lib.hid hr1; have HO1 := Lib.hid ho1; clear hr1 ho1)
      | (go_at_call 129; (with_reducible refine (HP.out _ HO1.out).mono ?_); rintro e w2 ⟨he, hb2⟩; (obtain ⟨v, rfl, hv⟩ : ∃ v, e = Ending.returned (.tuple #[v, .int .i64 0, .int .i64 0]) ∧ TyAt w2 (fun b => w1.heap.size ≤ b) 6 v t := he); (obtain ⟨A, c, rfl⟩ := TyAt.form hv); have HV := Lib.hid hv; have HX2 := Lib.hid (bl_blk hb2 (HX1.out _ HO1.out)); have HR2 := Lib.hid ((HR1.out.below hb2).below ((Below.refl w2.heap.size w2).alloc (Nat.le_refl _) (.cells #[(.int .i64 t.kind), (.slice A t.args.length c)] 64))); have HO2 := Lib.hid (only_bl (only_bl HO1.out hb2) ((Below.refl w2.heap.size w2).alloc (Nat.le_refl _) (.cells #[(.int .i64 t.kind), (.slice A t.args.length c)] 64))); have HBI : Hid (R < w2.heap.size ∧ w.heap.size < w2.heap.size) := Lib.hid ⟨(HR1.out.below hb2).lt, cell_lt HX2.out⟩; clear hb2 hv)
      | (go_at_call 130; (with_reducible refine (need_any _ R P l f _ HR2.out).mono ?_); rintro e w3 ⟨rfl, hr3, ho3⟩; have hz := (ho3.block w2.heap.size (by simp) (fun e => by have := Option.some.inj e; have := HBI.out; omega)).trans (heap_alloc_new w2 _); have z0 := cellN (i := 0) hz rfl; have z1 := cellN (i := 1) hz rfl; have hy := ((ho3.block w.heap.size (by have := HBI.out; simp; omega) (fun e => by have := Option.some.inj e; have := HBR.out; omega)).trans (Below.heap_alloc w2 _ _ HBI.out.2)).trans HX2.out; have y0 := cellN (i := 0) hy rfl; have y1 := cellN (i := 1) hy rfl; have y2 := frozN (i := 0) hy; have y3 := frozN (i := 1) hy; have HY := Lib.hid hy; have HR3 := Lib.hid hr3; have HO3 := Lib.hid ho3; clear hr3 ho3 hz hy)
      | fail)
    have hst := Knd.two_stored HY.out (.int .i64 t.kind) (.slice A t.args.length c)
    have s0 := cellN (i := 0) hst rfl
    have s1 := cellN (i := 1) hst rfl
    refine bodyPost_ret (v := .agg #[.int .i64 t.kind, .slice A t.args.length c]) (by simp [results, Tryz.results104, go_sem, s0, s1]) rfl ?_
    have hrd := (HR3.out.far (i := 0) HBR.out HBP.out (.int .i64 t.kind)).far (i := 1) HBR.out HBP.out (.slice A t.args.length c)
    have hon := Only.far (p := ⟨w.heap.size, 1, none⟩) (u := .slice A t.args.length c) (Nat.le_refl _) (Only.far (p := ⟨w.heap.size, 0, none⟩) (u := .int .i64 t.kind) (Nat.le_refl _) ((HA0.out.trans HO2.out).trans HO3.out))
    have h1l := HR1.out.lt
    have hwl : w.heap.size < w1.heap.size := cell_lt (HX1.out _ HO1.out)
    refine ⟨⟨A, t, c, rfl, (fun v hv => by rw [HQ.out] at hv; exact Option.some.inj hv), ?_⟩, hrd, hon⟩
    have hv3 := (HV.out.below ((Below.refl w2.heap.size w2).alloc (Nat.le_refl _) _)).only (fun b hb e => by omega) HO3.out
    exact TyAt.move (fun b hb hl => ⟨by omega, fun o => (World.cell?_of_block (Below.heap_setCell _ _ _ b (by simp; omega))).trans (World.cell?_of_block (Below.heap_setCell _ _ _ b (by simp; omega)))⟩) _ _ _ hv3
end Go.Proofs.YtllnamhgnbdkmaaGreatDoor
namespace Go.Proofs.YtllnamhgnbdkmaaGreatDoor
open Go.RowKit Go.Shelf
theorem set_block {w : World} {b i : Nat} {xs : Array Value} {t : TypeId} {u : Value} (h : w.heap[b]? = some (.cells xs t (0, 0))) : (w.setCell ⟨b, i, none⟩ u).heap[b]? = some (.cells (xs.set! i u) t (0, 0)) := by
  simp [World.setCell, Array.getElem?_modify, h]
structure RdF (w W : World) (R P B F : Nat) (T : TypeId) (ys xs : Array Value) (l : List (List UInt8)) (f : Bool) : Prop where
  rd : RdL W R P l f
  on : Only R w W
  bx : W.heap[B]? = some (.cells ys T (0, 0))
  fx : W.heap[F]? = some (.cells xs T (0, 0))
  br : B ≠ R
  fr : F ≠ R
  bp : B ≠ P
  fp : F ≠ P
  bf : B ≠ F
  wb : w.heap.size ≤ B
  wf : w.heap.size ≤ F
theorem RdF.start {w : World} {R P : Nat} {T : TypeId} {ys xs : Array Value} {p : List UInt8} {l : List (List UInt8)} {f : Bool} (h : RdL w R P (p :: l) f) : RdF w ((w.alloc (.cells ys T)).alloc (.cells xs T)) R P w.heap.size (w.heap.size + 1) T ys xs (p :: l) f := by
  have h1 := h.lt
  have h2 := h.ltP
  have hb : Below w.heap.size w ((w.alloc (.cells ys T)).alloc (.cells xs T)) := ((Below.refl _ w).alloc (Nat.le_refl _) _).alloc (by simp) _
  refine ⟨h.below hb, Only.of_below hb, (Below.heap_alloc _ _ _ (by simp)).trans (heap_alloc_new w _), by simpa using heap_alloc_new (w.alloc (.cells ys T)) (.cells xs T), ?_, ?_, ?_, ?_, ?_, ?_, ?_⟩ <;> omega
theorem RdF.call {w W W' : World} {R P B F : Nat} {T : TypeId} {ys xs : Array Value} {l l' : List (List UInt8)} {f f' : Bool} (h : RdF w W R P B F T ys xs l f) (hr : RdL W' R P l' f') (ho : Only R W W') : RdF w W' R P B F T ys xs l' f' :=
  ⟨hr, h.on.trans ho, (ho.block _ (cell_lt h.bx) (fun e => h.br (Option.some.inj e))).trans h.bx, (ho.block _ (cell_lt h.fx) (fun e => h.fr (Option.some.inj e))).trans h.fx, h.br, h.fr, h.bp, h.fp, h.bf, h.wb, h.wf⟩
theorem RdF.set {w W : World} {R P B F : Nat} {T : TypeId} {ys xs : Array Value} {l : List (List UInt8)} {f : Bool} (h : RdF w W R P B F T ys xs l f) (i : Nat) (u : Value) : RdF w (W.setCell ⟨F, i, none⟩ u) R P B F T ys (xs.set! i u) l f :=
  ⟨h.rd.far h.fr.symm h.fp.symm u, Only.far (p := ⟨F, i, none⟩) h.wf h.on, (Below.heap_setCell W ⟨F, i, none⟩ u B h.bf).trans h.bx, set_block h.fx, h.br, h.fr, h.bp, h.fp, h.bf, h.wb, h.wf⟩
theorem RdF.told {w W : World} {R P B F : Nat} {T : TypeId} {ys xs : Array Value} {l : List (List UInt8)} {f : Bool} (h : RdF w W R P B F T ys xs l f) (i : Nat) (u : Value) : RdF w (W.setCell ⟨B, i, none⟩ u) R P B F T (ys.set! i u) xs l f :=
  ⟨h.rd.far h.br.symm h.bp.symm u, Only.far (p := ⟨B, i, none⟩) h.wb h.on, set_block h.bx, (Below.heap_setCell W ⟨B, i, none⟩ u F h.bf.symm).trans h.fx, h.br, h.fr, h.bp, h.fp, h.bf, h.wb, h.wf⟩
def ReadN (p : List UInt8) (n : Int) : Prop := ∀ v, goodN p 9999999 = some v → n = v
def badN (p : List UInt8) : Bool := !(goodN p 9999999).isSome
set_option maxRecDepth 100000 in
theorem readNumber_at {w0 w W : World} {R P B F : Nat} {T : TypeId} {ys xs : Array Value} {p : List UInt8} {l : List (List UInt8)} {f : Bool} (h : RdF w W R P B F T ys xs (p :: l) f) (hG : Gk w0) (hb : Below w0.heap.size w0 w) (hR : w0.heap.size ≤ R) (hs : p.length ≤ 1000000) :
    Calls Tryz.prog 132 #[.pointer (some ⟨R, 0, none⟩)] W fun e w' => (∃ n, e = .returned (.int .i64 n) ∧ ReadN p n) ∧ RdF w w' R P B F T ys xs l (f || badN p) := by
  refine (readNumber_any w0 W R P p l f hG (only_base hb hR h.on) hR hs h.rd).mono ?_
  rintro e w' ⟨⟨n, rfl, hv⟩, hr, ho⟩
  exact ⟨⟨n, rfl, hv⟩, h.call hr ho⟩
set_option maxRecDepth 100000 in
theorem readFn_any (w0 w : World) (R P : Nat) (p0 p1 p2 p3 : List UInt8) (l : List (List UInt8)) (f : Bool) (hG : Gk w0) (hb : Below w0.heap.size w0 w) (hR : w0.heap.size ≤ R) (h0 : p0.length ≤ 1000000) (h1 : p1.length ≤ 1000000) (h2 : p2.length ≤ 1000000) (h3 : p3.length ≤ 1000000) (h : RdL w R P (p0 :: p1 :: p2 :: p3 :: l) f) :
    Calls Tryz.prog 108 #[.pointer (some ⟨R, 0, none⟩)] w fun e w' => (∃ n0 n1 n2 n3, e = .returned (.agg #[.int .i64 n0, .int .i64 n1, .int .i64 n2, .int .i64 n3]) ∧ ReadN p0 n0 ∧ ReadN p1 n1 ∧ ReadN p2 n2 ∧ ReadN p3 n3) ∧ RdL w' R P l ((((f || badN p0) || badN p1) || badN p2) || badN p3) ∧ Only R w w' := by
  have HF0 := Lib.hid (RdF.start (T := 69) (ys := #[.int .i64 0, .int .i64 0, .int .i64 0, .int .i64 0]) (xs := #[.int .i64 0, .int .i64 0, .int .i64 0, .int .i64 0]) h)
  have HG := Lib.hid hG
  have HB := Lib.hid hb
  have HR := Lib.hid hR
  have H0 := Lib.hid h0
  have H1 := Lib.hid h1
  have H2 := Lib.hid h2
  have H3 := Lib.hid h3
  clear hG hb hR h0 h1 h2 h3 h
  go_enter Tryz.func108, Tryz.ntmps108
  go_wp2_with (first
    | (go_at_call 132; (with_reducible refine (readNumber_at HF0.out HG.out HB.out HR.out H0.out).mono ?_); rintro e w1 ⟨⟨n0, rfl, hv0⟩, hf⟩; have HV0 := Lib.hid hv0; have g1 := cellN (i := 0) (x := .int .i64 0) hf.fx rfl; have g2 := frozN (i := 0) hf.fx; have HF1 := Lib.hid (hf.set 0 (.int .i64 n0)); clear hf hv0 HF0)
    | (go_at_call 132; (with_reducible refine (readNumber_at HF1.out HG.out HB.out HR.out H1.out).mono ?_); rintro e w2 ⟨⟨n1, rfl, hv1⟩, hf⟩; have HV1 := Lib.hid hv1; have g3 := cellN (i := 1) (x := .int .i64 0) hf.fx rfl; have g4 := frozN (i := 1) hf.fx; have HF2 := Lib.hid (hf.set 1 (.int .i64 n1)); clear hf hv1 HF1)
    | (go_at_call 132; (with_reducible refine (readNumber_at HF2.out HG.out HB.out HR.out H2.out).mono ?_); rintro e w3 ⟨⟨n2, rfl, hv2⟩, hf⟩; have HV2 := Lib.hid hv2; have g5 := cellN (i := 2) (x := .int .i64 0) hf.fx rfl; have g6 := frozN (i := 2) hf.fx; have HF3 := Lib.hid (hf.set 2 (.int .i64 n2)); clear hf hv2 HF2)
    | (go_at_call 132; (with_reducible refine (readNumber_at HF3.out HG.out HB.out HR.out H3.out).mono ?_); rintro e w4 ⟨⟨n3, rfl, hv3⟩, hf⟩; have HV3 := Lib.hid hv3; have g7 := cellN (i := 3) (x := .int .i64 0) hf.fx rfl; have g8 := frozN (i := 3) hf.fx; have HF4 := Lib.hid (hf.set 3 (.int .i64 n3)); clear hf hv3 HF3; have hf5 := HF4.out.fx; have hb5 := HF4.out.bx; have x0 := cellN (i := 0) (x := .int .i64 n0) hf5 rfl; have y0 := cellN (i := 0) (x := .int .i64 0) hb5 rfl; have z0 := frozN (i := 0) hb5; have x1 := cellN (i := 1) (x := .int .i64 n1) hf5 rfl; have y1 := cellN (i := 1) (x := .int .i64 0) hb5 rfl; have z1 := frozN (i := 1) hb5; have x2 := cellN (i := 2) (x := .int .i64 n2) hf5 rfl; have y2 := cellN (i := 2) (x := .int .i64 0) hb5 rfl; have z2 := frozN (i := 2) hb5; have x3 := cellN (i := 3) (x := .int .i64 n3) hf5 rfl; have y3 := cellN (i := 3) (x := .int .i64 0) hb5 rfl; have z3 := frozN (i := 3) hb5; clear hf5 hb5)
    | fail)
  have ht := ((((HF4.out.told 0 (.int .i64 n0)).told 1 (.int .i64 n1)).told 2 (.int .i64 n2)).told 3 (.int .i64 n3))
  have s0 := cellN (i := 0) (x := .int .i64 n0) ht.bx rfl
  have s1 := cellN (i := 1) (x := .int .i64 n1) ht.bx rfl
  have s2 := cellN (i := 2) (x := .int .i64 n2) ht.bx rfl
  have s3 := cellN (i := 3) (x := .int .i64 n3) ht.bx rfl
  refine bodyPost_ret (v := .agg #[.int .i64 n0, .int .i64 n1, .int .i64 n2, .int .i64 n3]) (by simp [results, Tryz.results108, go_sem, s0, s1, s2, s3]) rfl ?_
  exact ⟨⟨n0, n1, n2, n3, rfl, HV0.out, HV1.out, HV2.out, HV3.out⟩, ht.rd, ht.on⟩
def modeP (p : List UInt8) : Option Bool := if p = [97, 99, 99] then some true else if p = [100, 105, 115] then some false else none
theorem next_at {w W : World} {R P B F : Nat} {T : TypeId} {ys xs : Array Value} {p : List UInt8} {l : List (List UInt8)} {f : Bool} (h : RdF w W R P B F T ys xs (p :: l) f) :
    Calls Tryz.prog 111 #[.pointer (some ⟨R, 0, none⟩)] W fun e w' => e = .returned (.string ⟨p.toArray⟩) ∧ RdF w w' R P B F T ys xs l f := by
  refine (next_any W R P p l f h.rd).mono ?_
  rintro e w' ⟨rfl, hr, ho⟩
  exact ⟨rfl, h.call hr ho⟩
theorem need_at {w W : World} {R P B F : Nat} {T : TypeId} {ys xs : Array Value} {l : List (List UInt8)} {f : Bool} (h : RdF w W R P B F T ys xs l f) (b : Bool) :
    Calls Tryz.prog 130 #[.pointer (some ⟨R, 0, none⟩), .bool b] W fun e w' => e = .returned (.tuple #[]) ∧ RdF w w' R P B F T ys xs l (f || !b) := by
  refine (need_any W R P l f b h.rd).mono ?_
  rintro e w' ⟨rfl, hr, ho⟩
  exact ⟨rfl, h.call hr ho⟩
set_option maxRecDepth 100000 in
theorem readTrig_any (w0 w : World) (R P : Nat) (p0 p1 p2 p3 : List UInt8) (l : List (List UInt8)) (f : Bool) (hG : Gk w0) (hb : Below w0.heap.size w0 w) (hR : w0.heap.size ≤ R) (h0 : p0.length ≤ 1000000) (h1 : p1.length ≤ 1000000) (h2 : p2.length ≤ 1000000) (h : RdL w R P (p0 :: p1 :: p2 :: p3 :: l) f) :
    Calls Tryz.prog 109 #[.pointer (some ⟨R, 0, none⟩)] w fun e w' => (∃ n0 n1 n2 a, e = .returned (.agg #[.int .i64 n0, .int .i64 n1, .int .i64 n2, .bool a]) ∧ ReadN p0 n0 ∧ ReadN p1 n1 ∧ ReadN p2 n2 ∧ ∀ b, modeP p3 = some b → a = b) ∧ RdL w' R P l ((((f || badN p0) || badN p1) || badN p2) || !(modeP p3).isSome) ∧ Only R w w' := by
  have HF0 := Lib.hid (RdF.start (T := 71) (ys := #[.int .i64 0, .int .i64 0, .int .i64 0, .bool false]) (xs := #[.int .i64 0, .int .i64 0, .int .i64 0, .bool false]) h)
  have HG := Lib.hid hG
  have HB := Lib.hid hb
  have HR := Lib.hid hR
  have H0 := Lib.hid h0
  have H1 := Lib.hid h1
  have H2 := Lib.hid h2
  clear hG hb hR h0 h1 h2 h
  by_cases ha : p3 = [97, 99, 99]
  · have HQ : Hid (modeP p3 = some true) := Lib.hid (by unfold modeP; rw [if_pos ha])
    subst ha
    go_enter Tryz.func109, Tryz.ntmps109
    go_wp2_with (first
      | (go_at_call 132; (with_reducible refine (readNumber_at HF0.out HG.out HB.out HR.out H0.out).mono ?_); rintro e w1 ⟨⟨n0, rfl, hv0⟩, hf⟩; have HV0 := Lib.hid hv0; have g1 := cellN (i := 0) (x := .int .i64 0) hf.fx rfl; have g2 := frozN (i := 0) hf.fx; have HF1 := Lib.hid (hf.set 0 (.int .i64 n0)); clear hf hv0 HF0)
      | (go_at_call 132; (with_reducible refine (readNumber_at HF1.out HG.out HB.out HR.out H1.out).mono ?_); rintro e w2 ⟨⟨n1, rfl, hv1⟩, hf⟩; have HV1 := Lib.hid hv1; have g3 := cellN (i := 1) (x := .int .i64 0) hf.fx rfl; have g4 := frozN (i := 1) hf.fx; have HF2 := Lib.hid (hf.set 1 (.int .i64 n1)); clear hf hv1 HF1)
      | (go_at_call 132; (with_reducible refine (readNumber_at HF2.out HG.out HB.out HR.out H2.out).mono ?_); rintro e w3 ⟨⟨n2, rfl, hv2⟩, hf⟩; have HV2 := Lib.hid hv2; have g5 := cellN (i := 2) (x := .int .i64 0) hf.fx rfl; have g6 := frozN (i := 2) hf.fx; have HF3 := Lib.hid (hf.set 2 (.int .i64 n2)); clear hf hv2 HF2)
      | (go_at_call 111; (with_reducible refine (next_at HF3.out).mono ?_); rintro e w4 ⟨rfl, hf⟩; have HF4 := Lib.hid hf; clear hf HF3)
      | (go_at_call 130; (with_reducible refine (need_at HF4.out _).mono ?_); rintro e w5 ⟨rfl, hf⟩; have g9 := cellN (i := 3) (x := .bool false) hf.fx rfl; have g10 := frozN (i := 3) hf.fx; have HF5 := Lib.hid (hf.set 3 (.bool true)); have hf5 := HF5.out.fx; have hb5 := HF5.out.bx; have x0 := cellN (i := 0) (x := .int .i64 n0) hf5 rfl; have y0 := cellN (i := 0) (x := .int .i64 0) hb5 rfl; have z0 := frozN (i := 0) hb5; have x1 := cellN (i := 1) (x := .int .i64 n1) hf5 rfl; have y1 := cellN (i := 1) (x := .int .i64 0) hb5 rfl; have z1 := frozN (i := 1) hb5; have x2 := cellN (i := 2) (x := .int .i64 n2) hf5 rfl; have y2 := cellN (i := 2) (x := .int .i64 0) hb5 rfl; have z2 := frozN (i := 2) hb5; have x3 := cellN (i := 3) (x := .bool true) hf5 rfl; have y3 := cellN (i := 3) (x := .bool false) hb5 rfl; have z3 := frozN (i := 3) hb5; clear hf5 hb5; clear hf HF4)
      | fail)
    have ht := ((((HF5.out.told 0 (.int .i64 n0)).told 1 (.int .i64 n1)).told 2 (.int .i64 n2)).told 3 (.bool true))
    have s0 := cellN (i := 0) (x := .int .i64 n0) ht.bx rfl
    have s1 := cellN (i := 1) (x := .int .i64 n1) ht.bx rfl
    have s2 := cellN (i := 2) (x := .int .i64 n2) ht.bx rfl
    have s3 := cellN (i := 3) (x := .bool true) ht.bx rfl
    refine bodyPost_ret (v := .agg #[.int .i64 n0, .int .i64 n1, .int .i64 n2, .bool true]) (by simp [results, Tryz.results109, go_sem, s0, s1, s2, s3]) rfl ?_
    exact ⟨⟨n0, n1, n2, _, rfl, HV0.out, HV1.out, HV2.out, fun b hb => by rw [HQ.out] at hb; exact Option.some.inj hb⟩, (by simpa [HQ.out] using ht.rd), ht.on⟩
  by_cases hd : p3 = [100, 105, 115]
  · have HQ : Hid (modeP p3 = some false) := Lib.hid (by unfold modeP; rw [if_neg ha, if_pos hd])
    subst hd
    go_enter Tryz.func109, Tryz.ntmps109
    go_wp2_with (first
      | (go_at_call 132; (with_reducible refine (readNumber_at HF0.out HG.out HB.out HR.out H0.out).mono ?_); rintro e w1 ⟨⟨n0, rfl, hv0⟩, hf⟩; have HV0 := Lib.hid hv0; have g1 := cellN (i := 0) (x := .int .i64 0) hf.fx rfl; have g2 := frozN (i := 0) hf.fx; have HF1 := Lib.hid (hf.set 0 (.int .i64 n0)); clear hf hv0 HF0)
      | (go_at_call 132; (with_reducible refine (readNumber_at HF1.out HG.out HB.out HR.out H1.out).mono ?_); rintro e w2 ⟨⟨n1, rfl, hv1⟩, hf⟩; have HV1 := Lib.hid hv1; have g3 := cellN (i := 1) (x := .int .i64 0) hf.fx rfl; have g4 := frozN (i := 1) hf.fx; have HF2 := Lib.hid (hf.set 1 (.int .i64 n1)); clear hf hv1 HF1)
      | (go_at_call 132; (with_reducible refine (readNumber_at HF2.out HG.out HB.out HR.out H2.out).mono ?_); rintro e w3 ⟨⟨n2, rfl, hv2⟩, hf⟩; have HV2 := Lib.hid hv2; have g5 := cellN (i := 2) (x := .int .i64 0) hf.fx rfl; have g6 := frozN (i := 2) hf.fx; have HF3 := Lib.hid (hf.set 2 (.int .i64 n2)); clear hf hv2 HF2)
      | (go_at_call 111; (with_reducible refine (next_at HF3.out).mono ?_); rintro e w4 ⟨rfl, hf⟩; have HF4 := Lib.hid hf; clear hf HF3)
      | (go_at_call 130; (with_reducible refine (need_at HF4.out _).mono ?_); rintro e w5 ⟨rfl, hf⟩; have g9 := cellN (i := 3) (x := .bool false) hf.fx rfl; have g10 := frozN (i := 3) hf.fx; have HF5 := Lib.hid (hf.set 3 (.bool false)); have hf5 := HF5.out.fx; have hb5 := HF5.out.bx; have x0 := cellN (i := 0) (x := .int .i64 n0) hf5 rfl; have y0 := cellN (i := 0) (x := .int .i64 0) hb5 rfl; have z0 := frozN (i := 0) hb5; have x1 := cellN (i := 1) (x := .int .i64 n1) hf5 rfl; have y1 := cellN (i := 1) (x := .int .i64 0) hb5 rfl; have z1 := frozN (i := 1) hb5; have x2 := cellN (i := 2) (x := .int .i64 n2) hf5 rfl; have y2 := cellN (i := 2) (x := .int .i64 0) hb5 rfl; have z2 := frozN (i := 2) hb5; have x3 := cellN (i := 3) (x := .bool false) hf5 rfl; have y3 := cellN (i := 3) (x := .bool false) hb5 rfl; have z3 := frozN (i := 3) hb5; clear hf5 hb5; clear hf HF4)
      | fail)
    have ht := ((((HF5.out.told 0 (.int .i64 n0)).told 1 (.int .i64 n1)).told 2 (.int .i64 n2)).told 3 (.bool false))
    have s0 := cellN (i := 0) (x := .int .i64 n0) ht.bx rfl
    have s1 := cellN (i := 1) (x := .int .i64 n1) ht.bx rfl
    have s2 := cellN (i := 2) (x := .int .i64 n2) ht.bx rfl
    have s3 := cellN (i := 3) (x := .bool false) ht.bx rfl
    refine bodyPost_ret (v := .agg #[.int .i64 n0, .int .i64 n1, .int .i64 n2, .bool false]) (by simp [results, Tryz.results109, go_sem, s0, s1, s2, s3]) rfl ?_
    exact ⟨⟨n0, n1, n2, _, rfl, HV0.out, HV1.out, HV2.out, fun b hb => by rw [HQ.out] at hb; exact Option.some.inj hb⟩, (by simpa [HQ.out] using ht.rd), ht.on⟩
  · have HQ : Hid (modeP p3 = none) := Lib.hid (by unfold modeP; rw [if_neg ha, if_neg hd])
    have e1 : (p3 == [97, 99, 99]) = false := by simpa using ha
    have e2 : (p3 == [100, 105, 115]) = false := by simpa using hd
    clear ha hd
    go_enter Tryz.func109, Tryz.ntmps109
    go_wp2_with (first
      | (go_at_call 132; (with_reducible refine (readNumber_at HF0.out HG.out HB.out HR.out H0.out).mono ?_); rintro e w1 ⟨⟨n0, rfl, hv0⟩, hf⟩; have HV0 := Lib.hid hv0; have g1 := cellN (i := 0) (x := .int .i64 0) hf.fx rfl; have g2 := frozN (i := 0) hf.fx; have HF1 := Lib.hid (hf.set 0 (.int .i64 n0)); clear hf hv0 HF0)
      | (go_at_call 132; (with_reducible refine (readNumber_at HF1.out HG.out HB.out HR.out H1.out).mono ?_); rintro e w2 ⟨⟨n1, rfl, hv1⟩, hf⟩; have HV1 := Lib.hid hv1; have g3 := cellN (i := 1) (x := .int .i64 0) hf.fx rfl; have g4 := frozN (i := 1) hf.fx; have HF2 := Lib.hid (hf.set 1 (.int .i64 n1)); clear hf hv1 HF1)
      | (go_at_call 132; (with_reducible refine (readNumber_at HF2.out HG.out HB.out HR.out H2.out).mono ?_); rintro e w3 ⟨⟨n2, rfl, hv2⟩, hf⟩; have HV2 := Lib.hid hv2; have g5 := cellN (i := 2) (x := .int .i64 0) hf.fx rfl; have g6 := frozN (i := 2) hf.fx; have HF3 := Lib.hid (hf.set 2 (.int .i64 n2)); clear hf hv2 HF2)
      | (go_at_call 111; (with_reducible refine (next_at HF3.out).mono ?_); rintro e w4 ⟨rfl, hf⟩; have HF4 := Lib.hid hf; clear hf HF3)
      | (go_at_call 130; (with_reducible refine (need_at HF4.out _).mono ?_); rintro e w5 ⟨rfl, hf⟩; have g9 := cellN (i := 3) (x := .bool false) hf.fx rfl; have g10 := frozN (i := 3) hf.fx; have HF5 := Lib.hid (hf.set 3 (.bool false)); have hf5 := HF5.out.fx; have hb5 := HF5.out.bx; have x0 := cellN (i := 0) (x := .int .i64 n0) hf5 rfl; have y0 := cellN (i := 0) (x := .int .i64 0) hb5 rfl; have z0 := frozN (i := 0) hb5; have x1 := cellN (i := 1) (x := .int .i64 n1) hf5 rfl; have y1 := cellN (i := 1) (x := .int .i64 0) hb5 rfl; have z1 := frozN (i := 1) hb5; have x2 := cellN (i := 2) (x := .int .i64 n2) hf5 rfl; have y2 := cellN (i := 2) (x := .int .i64 0) hb5 rfl; have z2 := frozN (i := 2) hb5; have x3 := cellN (i := 3) (x := .bool false) hf5 rfl; have y3 := cellN (i := 3) (x := .bool false) hb5 rfl; have z3 := frozN (i := 3) hb5; clear hf5 hb5; clear hf HF4)
      | fail)
    have ht := ((((HF5.out.told 0 (.int .i64 n0)).told 1 (.int .i64 n1)).told 2 (.int .i64 n2)).told 3 (.bool false))
    have s0 := cellN (i := 0) (x := .int .i64 n0) ht.bx rfl
    have s1 := cellN (i := 1) (x := .int .i64 n1) ht.bx rfl
    have s2 := cellN (i := 2) (x := .int .i64 n2) ht.bx rfl
    have s3 := cellN (i := 3) (x := .bool false) ht.bx rfl
    refine bodyPost_ret (v := .agg #[.int .i64 n0, .int .i64 n1, .int .i64 n2, .bool false]) (by simp [results, Tryz.results109, go_sem, s0, s1, s2, s3]) rfl ?_
    exact ⟨⟨n0, n1, n2, _, rfl, HV0.out, HV1.out, HV2.out, fun b hb => by rw [HQ.out] at hb; cases hb⟩, (by simpa [HQ.out] using ht.rd), ht.on⟩
end Go.Proofs.YtllnamhgnbdkmaaGreatDoor
namespace Go.Proofs.YtllnamhgnbdkmaaGreatDoor
open Go.RowKit Go.Shelf
def PlacesOk (q : List UInt8 → Option (List Int)) : Prop := ∀ (w0 w : World) (R P : Nat) (s : List UInt8) (l : List (List UInt8)) (f : Bool), Gk w0 → Below w0.heap.size w0 w → w0.heap.size ≤ R → s.length ≤ 1000000 → RdL w R P l f →
    Calls Tryz.prog 110 #[.pointer (some ⟨R, 0, none⟩), .string ⟨s.toArray⟩] w fun e w' => (∃ A v c, e = .returned (.slice A (v : List Int).length c) ∧ (∀ x, f = false → q s = some x → v = x) ∧ IntsAt w' (fun b => w.heap.size ≤ b) (.slice A v.length c) v) ∧ RdL w' R P l (f || !(q s).isSome) ∧ Only R w w'
def sidesP (q : List UInt8 → Option (List Int)) (s : List UInt8) : Option (List Int) := if s = [45] then some [] else q s
set_option maxRecDepth 100000 in
theorem readSides_any {q : List UInt8 → Option (List Int)} (hq : PlacesOk q) (w0 w : World) (R P : Nat) (p : List UInt8) (l : List (List UInt8)) (f : Bool) (hG : Gk w0) (hb : Below w0.heap.size w0 w) (hR : w0.heap.size ≤ R) (hs : p.length ≤ 1000000) (h : RdL w R P (p :: l) f) :
    Calls Tryz.prog 106 #[.pointer (some ⟨R, 0, none⟩)] w fun e w' => (∃ A v c, e = .returned (.slice A (v : List Int).length c) ∧ (∀ x, f = false → sidesP q p = some x → v = x) ∧ IntsAt w' (fun b => w.heap.size ≤ b) (.slice A v.length c) v) ∧ RdL w' R P l (f || !(sidesP q p).isSome) ∧ Only R w w' := by
  have HN := Lib.hid (next_any w R P p l f h)
  have HP : Hid (∀ W, Only R w W → RdL W R P l f → _) := Lib.hid fun W ho hr => hq w0 W R P p l f hG (only_base hb hR ho) hR hs hr
  clear hG hb hR hs h hq
  by_cases hp : p = [45]
  · have HQ : Hid (sidesP q p = some []) := Lib.hid (by unfold sidesP; rw [if_pos hp])
    subst hp
    go_enter Tryz.func106, Tryz.ntmps106
    go_wp2_with (first
      | (go_at_call 111; (with_reducible refine HN.out.mono ?_); rintro e w1 ⟨rfl, hr1, ho1⟩; have HR1 := Lib.hid hr1; have HO1 := Lib.hid ho1; clear hr1 ho1)
      | fail)
    go_ret
    exact ⟨⟨none, [], 0, rfl, (fun x _ hx => by rw [HQ.out] at hx; exact Option.some.inj hx), IntsAt.nil _ _⟩, (by simpa [HQ.out] using HR1.out), HO1.out⟩
  · have HQ : Hid (sidesP q p = q p) := Lib.hid (by unfold sidesP; rw [if_neg hp])
    have e1 : (p == [45]) = false := by simpa using hp
    clear hp
    go_enter Tryz.func106, Tryz.ntmps106
    go_wp2_with (first
      | (go_at_call 111; (with_reducible refine HN.out.mono ?_); rintro e w1 ⟨rfl, hr1, ho1⟩; have HR1 := Lib.hid hr1; have HO1 := Lib.hid ho1; clear hr1 ho1)
      | (go_at_call 110; (with_reducible refine (HP.out _ HO1.out HR1.out).mono ?_); rintro e w2 ⟨⟨A, v, c, rfl, hv, hi⟩, hr2, ho2⟩; have HV := Lib.hid hv; have HI := Lib.hid hi; have HR2 := Lib.hid hr2; have HO2 := Lib.hid ho2; clear hv hi hr2 ho2)
      | fail)
    go_ret
    rw [HQ.out]
    exact ⟨⟨A, v, c, rfl, HV.out, HI.out.move fun b hb hl => ⟨Nat.le_trans HO1.out.size hb, hl, fun _ => rfl⟩⟩, HR2.out, HO1.out.trans HO2.out⟩
structure NdF (w W : World) (R P : Nat) (n : Gn) (IA SA A : Option Addr) (ic sc c : Nat) (l : List (List UInt8)) (f : Bool) : Prop where
  rf : RdF w W R P w.heap.size (w.heap.size + 1) 83 #[.int .i64 0, .slice none 0 0, .slice none 0 0, .string ⟨#[]⟩, .int .i64 0, .slice none 0 0, .int .i64 0, .int .i64 0, .int .i64 0, .int .i64 0, .int .i64 0, .int .i64 0, .int .i64 0, .bool false] #[.int .i64 n.op, .slice IA n.ins.length ic, .slice SA n.side.length sc, .string ⟨n.text.toArray⟩, .int .i64 n.ty.kind, .slice A n.ty.args.length c, .int .i64 n.f0, .int .i64 n.f1, .int .i64 n.f2, .int .i64 n.f3, .int .i64 n.e, .int .i64 n.l, .int .i64 n.lt, .bool n.acc] l f
  rl : R < w.heap.size
  i1 : IntsAt W (fun b => w.heap.size + 2 ≤ b) (.slice IA n.ins.length ic) n.ins
  i2 : IntsAt W (fun b => w.heap.size + 2 ≤ b) (.slice SA n.side.length sc) n.side
  ty : TyAt W (fun b => w.heap.size + 2 ≤ b) 6 (.agg #[.int .i64 n.ty.kind, .slice A n.ty.args.length c]) n.ty
theorem NdF.big {w W : World} {R P : Nat} {n : Gn} {IA SA A : Option Addr} {ic sc c : Nat} {l : List (List UInt8)} {f : Bool} (h : NdF w W R P n IA SA A ic sc c l f) : w.heap.size + 2 ≤ W.heap.size := cell_lt h.rf.fx
theorem NdF.call {w W : World} {R P : Nat} {n : Gn} {IA SA A : Option Addr} {ic sc c : Nat} {l l' : List (List UInt8)} {f f' : Bool} {W' : World} (h : NdF w W R P n IA SA A ic sc c l f) (hr : RdL W' R P l' f') (ho : Only R W W') : NdF w W' R P n IA SA A ic sc c l' f' :=
  ⟨h.rf.call hr ho, h.rl, h.i1.only (fun b hb e => by have := h.rl; omega) ho, h.i2.only (fun b hb e => by have := h.rl; omega) ho, h.ty.only (fun b hb e => by have := h.rl; omega) ho⟩
theorem ints_set {W : World} {S : Nat → Prop} {v : Value} {l : List Int} {F i : Nat} {u : Value} (h : IntsAt W S v l) (hS : ∀ b, S b → b ≠ F) : IntsAt (W.setCell ⟨F, i, none⟩ u) S v l :=
  h.move fun b hb hl => ⟨hb, by simpa [World.setCell] using hl, fun o => World.cell?_of_block (Below.heap_setCell W ⟨F, i, none⟩ u b (hS b hb))⟩
theorem ty_set {W : World} {S : Nat → Prop} {v : Value} {t : Ty} {F i d : Nat} {u : Value} (h : TyAt W S d v t) (hS : ∀ b, S b → b ≠ F) : TyAt (W.setCell ⟨F, i, none⟩ u) S d v t :=
  TyAt.move (fun b hb hl => ⟨hb, fun o => World.cell?_of_block (Below.heap_setCell W ⟨F, i, none⟩ u b (hS b hb))⟩) _ _ _ h
theorem NdF.setIns {w W : World} {R P : Nat} {n : Gn} {IA SA A : Option Addr} {ic sc c : Nat} {l : List (List UInt8)} {f : Bool} (h : NdF w W R P n IA SA A ic sc c l f) {X : Option Addr} {xc : Nat} {v : List Int} (hi : IntsAt W (fun b => w.heap.size + 2 ≤ b) (.slice X v.length xc) v) : NdF w (W.setCell ⟨w.heap.size + 1, 1, none⟩ (.slice X v.length xc)) R P { n with ins := v } X SA A xc sc c l f :=
  ⟨(h.rf.set 1 (.slice X v.length xc)), h.rl, ints_set (hi) (fun b hb => by omega), ints_set (h.i2) (fun b hb => by omega), ty_set (h.ty) (fun b hb => by omega)⟩
theorem NdF.setSide {w W : World} {R P : Nat} {n : Gn} {IA SA A : Option Addr} {ic sc c : Nat} {l : List (List UInt8)} {f : Bool} (h : NdF w W R P n IA SA A ic sc c l f) {X : Option Addr} {xc : Nat} {v : List Int} (hi : IntsAt W (fun b => w.heap.size + 2 ≤ b) (.slice X v.length xc) v) : NdF w (W.setCell ⟨w.heap.size + 1, 2, none⟩ (.slice X v.length xc)) R P { n with side := v } IA X A ic xc c l f :=
  ⟨(h.rf.set 2 (.slice X v.length xc)), h.rl, ints_set (h.i1) (fun b hb => by omega), ints_set (hi) (fun b hb => by omega), ty_set (h.ty) (fun b hb => by omega)⟩
theorem NdF.setText {w W : World} {R P : Nat} {n : Gn} {IA SA A : Option Addr} {ic sc c : Nat} {l : List (List UInt8)} {f : Bool} (h : NdF w W R P n IA SA A ic sc c l f) (s : List UInt8) : NdF w (W.setCell ⟨w.heap.size + 1, 3, none⟩ (.string ⟨s.toArray⟩)) R P { n with text := s } IA SA A ic sc c l f :=
  ⟨(h.rf.set 3 (.string ⟨s.toArray⟩)), h.rl, ints_set (h.i1) (fun b hb => by omega), ints_set (h.i2) (fun b hb => by omega), ty_set (h.ty) (fun b hb => by omega)⟩
theorem NdF.setTy {w W : World} {R P : Nat} {n : Gn} {IA SA A : Option Addr} {ic sc c : Nat} {l : List (List UInt8)} {f : Bool} (h : NdF w W R P n IA SA A ic sc c l f) {X : Option Addr} {xc : Nat} {t : Ty} (hi : TyAt W (fun b => w.heap.size + 2 ≤ b) 6 (.agg #[.int .i64 t.kind, .slice X t.args.length xc]) t) : NdF w ((W.setCell ⟨w.heap.size + 1, 4, none⟩ (.int .i64 t.kind)).setCell ⟨w.heap.size + 1, 5, none⟩ (.slice X t.args.length xc)) R P { n with ty := t } IA SA X ic sc xc l f :=
  ⟨((h.rf.set 4 (.int .i64 t.kind)).set 5 (.slice X t.args.length xc)), h.rl, ints_set (ints_set (h.i1) (fun b hb => by omega)) (fun b hb => by omega), ints_set (ints_set (h.i2) (fun b hb => by omega)) (fun b hb => by omega), ty_set (ty_set (hi) (fun b hb => by omega)) (fun b hb => by omega)⟩
theorem NdF.setFn {w W : World} {R P : Nat} {n : Gn} {IA SA A : Option Addr} {ic sc c : Nat} {l : List (List UInt8)} {f : Bool} (h : NdF w W R P n IA SA A ic sc c l f) (a0 a1 a2 a3 : Int) : NdF w ((((W.setCell ⟨w.heap.size + 1, 6, none⟩ (.int .i64 a0)).setCell ⟨w.heap.size + 1, 7, none⟩ (.int .i64 a1)).setCell ⟨w.heap.size + 1, 8, none⟩ (.int .i64 a2)).setCell ⟨w.heap.size + 1, 9, none⟩ (.int .i64 a3)) R P { n with f0 := a0, f1 := a1, f2 := a2, f3 := a3 } IA SA A ic sc c l f :=
  ⟨((((h.rf.set 6 (.int .i64 a0)).set 7 (.int .i64 a1)).set 8 (.int .i64 a2)).set 9 (.int .i64 a3)), h.rl, ints_set (ints_set (ints_set (ints_set (h.i1) (fun b hb => by omega)) (fun b hb => by omega)) (fun b hb => by omega)) (fun b hb => by omega), ints_set (ints_set (ints_set (ints_set (h.i2) (fun b hb => by omega)) (fun b hb => by omega)) (fun b hb => by omega)) (fun b hb => by omega), ty_set (ty_set (ty_set (ty_set (h.ty) (fun b hb => by omega)) (fun b hb => by omega)) (fun b hb => by omega)) (fun b hb => by omega)⟩
theorem NdF.setTrig {w W : World} {R P : Nat} {n : Gn} {IA SA A : Option Addr} {ic sc c : Nat} {l : List (List UInt8)} {f : Bool} (h : NdF w W R P n IA SA A ic sc c l f) (a0 a1 a2 : Int) (b : Bool) : NdF w ((((W.setCell ⟨w.heap.size + 1, 10, none⟩ (.int .i64 a0)).setCell ⟨w.heap.size + 1, 11, none⟩ (.int .i64 a1)).setCell ⟨w.heap.size + 1, 12, none⟩ (.int .i64 a2)).setCell ⟨w.heap.size + 1, 13, none⟩ (.bool b)) R P { n with e := a0, l := a1, lt := a2, acc := b } IA SA A ic sc c l f :=
  ⟨((((h.rf.set 10 (.int .i64 a0)).set 11 (.int .i64 a1)).set 12 (.int .i64 a2)).set 13 (.bool b)), h.rl, ints_set (ints_set (ints_set (ints_set (h.i1) (fun b hb => by omega)) (fun b hb => by omega)) (fun b hb => by omega)) (fun b hb => by omega), ints_set (ints_set (ints_set (ints_set (h.i2) (fun b hb => by omega)) (fun b hb => by omega)) (fun b hb => by omega)) (fun b hb => by omega), ty_set (ty_set (ty_set (ty_set (h.ty) (fun b hb => by omega)) (fun b hb => by omega)) (fun b hb => by omega)) (fun b hb => by omega)⟩
theorem NdF.start {w : World} {R P : Nat} {p : List UInt8} {l : List (List UInt8)} {f : Bool} (h : RdL w R P (p :: l) f) (op : Int) : NdF w ((w.alloc (.cells #[.int .i64 0, .slice none 0 0, .slice none 0 0, .string ⟨#[]⟩, .int .i64 0, .slice none 0 0, .int .i64 0, .int .i64 0, .int .i64 0, .int .i64 0, .int .i64 0, .int .i64 0, .int .i64 0, .bool false] 83)).alloc (.cells #[.int .i64 op, .slice none 0 0, .slice none 0 0, .string ⟨#[]⟩, .int .i64 0, .slice none 0 0, .int .i64 0, .int .i64 0, .int .i64 0, .int .i64 0, .int .i64 0, .int .i64 0, .int .i64 0, .bool false] 83)) R P ⟨op, [], [], [], tyZ, 0, 0, 0, 0, 0, 0, 0, false⟩ none none none 0 0 0 (p :: l) f :=
  ⟨RdF.start h, h.lt, IntsAt.nil _ _, IntsAt.nil _ _, tyZ_at _ _⟩
end Go.Proofs.YtllnamhgnbdkmaaGreatDoor
