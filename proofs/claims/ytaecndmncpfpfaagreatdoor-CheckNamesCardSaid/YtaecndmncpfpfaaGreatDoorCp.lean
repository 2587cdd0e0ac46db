import Derived.Test.YtaecndmncpfpfaaGreatDoorCo
set_option linter.unusedVariables false
set_option linter.unusedSimpArgs false
namespace Go.Proofs.YtaecndmncpfpfaaGreatDoor
open Go.RowKit
def eachE (isMap : Bool) (ps : List Int) (t : Ty) : Except (Int × List Int) Ty → Except (Int × List Int) Ty
 | .error x => .error x
 | .ok u => if isMap = true then (if (Knd.zH 6 (.mk 7 [u])).isSome then .ok (.mk 7 [u]) else .error (50, ps)) else if u.kind = 1 then .ok t else .error (50, ps)
def eachR (isMap : Bool) (ps : List Int) (r1 : Except (Int × List Int) Ty) (r2 : Ty → Except (Int × List Int) Ty) : Except (Int × List Int) Ty :=
 match r1 with
 | .error x => .error x
 | .ok t => if t.kind = 7 then eachE isMap ps t (r2 (t.args.headD ty0)) else .error (50, ps)
structure EcI (w wx : World) (W : Nat) (P : Nat → Prop) (it : Ty) (sides : List Ty) (names : List (List UInt8 × Ty)) (NA : Option Addr) (nk : Nat) (AV AV7 : Value) (ps : List Int) (N : Array Value) : Prop where
 walk : WkI wx W P it sides names NA nk AV7 ps
 step : WkS w wx W AV AV7
 nbox : wx.heap[w.heap.size]? = some (.cells N 41 (0, 0))
 rbox : wx.heap[w.heap.size + 1]? = some (.cells #[.int .i64 0, .slice none 0 0] 34 (0, 0))
 own : ∀ g, AV7.ownBlock = some g → g ≠ w.heap.size + 1
def BoxT (w wx : World) (P : Nat → Prop) (AV7 : Value) (B : Nat) (u : Ty) : Prop := ∃ A9 k9 d7, wx.heap[B]? = some (.cells #[.int .i64 u.kind, .slice A9 u.args.length k9] 34 (0, 0)) ∧ B ≠ w.heap.size + 1 ∧
 TyAt wx (fun k => P k ∨ (w.heap.size + 2 ≤ k ∧ k < wx.heap.size ∧ some k ≠ AV7.ownBlock)) d7 (.agg #[.int .i64 u.kind, .slice A9 u.args.length k9]) u
def EcOut (w wx : World) (W : Nat) (P : Nat → Prop) (it : Ty) (sides : List Ty) (names : List (List UInt8 × Ty)) (NA : Option Addr) (nk : Nat) (AV : Value) (ps : List Int) (N : Array Value) (LB : Nat) (t : Ty) (s7 s8 : Value) : Except (Int × List Int) Ty → Prop
 | .ok u => ∃ TB AV7, s7 = .int .i64 0 ∧ s8 = .pointer (some ⟨TB, 0, none⟩) ∧ EcI w wx W P it sides names NA nk AV AV7 ps N ∧ BoxT w wx P AV7 TB u ∧ BoxT w wx P AV7 LB t
 | .error (no, qs) => ∃ TB AV7, s7 = .int .i64 no ∧ no ≠ 0 ∧ s8 = .pointer (some ⟨TB, 0, none⟩) ∧ EcI w wx W P it sides names NA nk AV AV7 qs N
theorem ec_own {w3 wz w7 : World} {W TB : Nat} {P : Nat → Prop} {it : Ty} {sides : List Ty} {names : List (List UInt8 × Ty)} {NA : Option Addr} {nk : Nat} {AV3 AV7 : Value} {qs : List Int} (h7 : WkI w7 W P it sides names NA nk AV7 qs) (hs7 : WkS wz w7 W AV3 AV7) (h3l : ∀ g, AV3.ownBlock = some g → g < w3.heap.size) (hTB : w3.heap.size ≤ TB) (hTz : TB < wz.heap.size ∨ w7.heap.size ≤ TB) : ∀ g, AV7.ownBlock = some g → g ≠ TB := fun g hg => by
 have := h7.ownlt g hg
 rcases hs7.own with e | e
 · rw [e] at hg
   have := h3l g hg
   omega
 · have := e g hg
   omega
theorem ec_end {w w3 wz w7 wF : World} {W TB : Nat} {P : Nat → Prop} {it : Ty} {sides : List Ty} {names : List (List UInt8 × Ty)} {NA : Option Addr} {nk : Nat} {AV AV3 AV7 : Value} {ps qs : List Int} {N : Array Value}
    (h0 : WkI w W P it sides names NA nk AV ps) (hs3 : WkS w w3 W AV AV3) (h3l : ∀ g, AV3.ownBlock = some g → g < w3.heap.size ∧ (g < w.heap.size ∨ w.heap.size + 2 ≤ g)) (n13 : w.heap.size + 2 ≤ w3.heap.size) (hz : Below w3.heap.size w3 wz) (h7 : WkI w7 W P it sides names NA nk AV7 qs) (hs7 : WkS wz w7 W AV3 AV7) (hTB : w3.heap.size ≤ TB) (hTz : TB < wz.heap.size ∨ w7.heap.size ≤ TB)
    (far : ∀ b, b < w7.heap.size → b ≠ TB → wF.heap[b]? = w7.heap[b]?) (sF : w7.heap.size ≤ wF.heap.size) (oF : wF.os = w7.os ∧ wF.output = w7.output ∧ wF.tape = w7.tape) (hN : w3.heap[w.heap.size]? = some (.cells N 41 (0, 0))) (hR : w3.heap[w.heap.size + 1]? = some (.cells #[.int .i64 0, .slice none 0 0] 34 (0, 0))) : EcI w wF W P it sides names NA nk AV AV7 qs N := by
 have hTown := ec_own h7 hs7 (fun g hg => (h3l g hg).1) hTB hTz
 have hWl := h0.lt
 have hW7 := h7.lt
 have hsz := hz.size
 have hs7z := hs7.size
 have hP : ∀ k, P k → k < w.heap.size ∧ k ≠ W := fun k hk => ⟨(h0.sep k hk).1, (h0.sep k hk).2.1⟩
 have kp : ∀ k, P k → wF.heap[k]? = w7.heap[k]? := fun k hk => far k (by have := (hP k hk).1; omega) (by have := (hP k hk).1; omega)
 have hst := (hs3.trans (WkS.of_below (W := W) (AV := AV3) hz)).trans hs7
 have low : ∀ k, k < w3.heap.size → k ≠ W → some k ≠ AV3.ownBlock → wF.heap[k]? = w3.heap[k]? := fun k hk hW hA => (far k (by omega) (by omega)).trans ((hs7.block k (by omega) hW hA).trans (hz.block k hk))
 refine ⟨h7.step2 kp (fun k hk => ⟨by have := (hP k hk).1; omega, (hP k hk).2, (h7.sep k hk).2.2⟩) (h7.glob.kept (far _ (by have := h7.low; omega) (by have := h7.low; omega))) (fun a b c d h => (far W (by omega) (by omega)).trans h) ⟨h7.own.1, h7.own.2.imp id ?_⟩, ⟨oF.1.trans hst.os, oF.2.2.trans hst.tape, oF.2.1.trans hst.output, Nat.le_trans hst.size sF, fun k hk hW hA => (far k (by omega) (by omega)).trans (hst.block k hk hW hA), hst.own, fun a b c d h => (far W (by omega) (by omega)).trans (hst.box a b c d h)⟩, (low _ (by omega) (by omega) (fun e => by have := (h3l _ e.symm).2; omega)).trans hN, (low _ (by omega) (by omega) (fun e => by have := (h3l _ e.symm).2; omega)).trans hR, fun g hg => ?_⟩
 · rintro ⟨g, c, cur, e, hb, hh, r⟩
   exact ⟨g, c, cur, e, hb, (far g (zC hh) (hTown g (by rw [e]; rfl))).trans hh, r⟩
 · rcases hs7.own with e | e
   · rw [e] at hg
     have := (h3l g hg).2
     omega
   · have := e g hg
     omega
theorem box_u {w w3 wz w7 wF : World} {W TB BK d7 k9 : Nat} {A9 : Option Addr} {P : Nat → Prop} {it : Ty} {sides : List Ty} {names : List (List UInt8 × Ty)} {NA : Option Addr} {nk : Nat} {AV3 AV7 : Value} {qs : List Int} {u : Ty} (hP : ∀ k, P k → k < w.heap.size) (h3l : ∀ g, AV3.ownBlock = some g → g < w3.heap.size) (n13 : w.heap.size + 2 ≤ w3.heap.size) (hsz : w3.heap.size ≤ wz.heap.size) (h7 : WkI w7 W P it sides names NA nk AV7 qs) (hs7 : WkS wz w7 W AV3 AV7) (hTB : w3.heap.size ≤ TB) (hTz : TB < wz.heap.size ∨ w7.heap.size ≤ TB) (hBK : BK ≠ TB) (hBK3 : w3.heap.size ≤ BK) (hBKz : BK < wz.heap.size)
    (far : ∀ b, b < w7.heap.size → b ≠ TB → wF.heap[b]? = w7.heap[b]?) (sF : w7.heap.size ≤ wF.heap.size) (hF : wF.heap[TB]? = some (.cells #[.int .i64 u.kind, .slice A9 u.args.length k9] 34 (0, 0)))
    (hT : TyAt w7 (fun k => P k ∨ ((P k ∨ (w.heap.size + 2 ≤ k ∧ k < w3.heap.size ∧ some k ≠ AV3.ownBlock)) ∨ k = BK) ∨ (wz.heap.size ≤ k ∧ k < w7.heap.size ∧ some k ≠ AV7.ownBlock)) d7 (.agg #[.int .i64 u.kind, .slice A9 u.args.length k9]) u) : BoxT w wF P AV7 TB u := by
 have hs7z := hs7.size
 have hne : ∀ k, k < wz.heap.size → some k ≠ AV3.ownBlock → some k ≠ AV7.ownBlock := fun k hk hA e => by
  rcases hs7.own with e3 | e3
  · exact hA (e.trans e3)
  · have := e3 k e.symm
    omega
 refine ⟨A9, k9, d7, hF, by omega, hT.move fun b hb hl => ?_⟩
 rcases hb with hb | ((hb | ⟨k1, k2, k3⟩) | hb) | ⟨k1, k2, k3⟩
 · exact ⟨.inl hb, fun _ => World.cell?_of_block (far b hl (by have := hP b hb; omega))⟩
 · exact ⟨.inl hb, fun _ => World.cell?_of_block (far b hl (by have := hP b hb; omega))⟩
 · exact ⟨.inr ⟨k1, by omega, hne b (by omega) k3⟩, fun _ => World.cell?_of_block (far b hl (by omega))⟩
 · have hb' : b = BK := hb
   subst hb'
   exact ⟨.inr ⟨by omega, by omega, hne b hBKz (fun e => by have := h3l b e.symm; omega)⟩, fun _ => World.cell?_of_block (far b hl hBK)⟩
 · exact ⟨.inr ⟨by omega, by omega, k3⟩, fun _ => World.cell?_of_block (far b hl (by omega))⟩
theorem box_t {w w3 wz w7 wF : World} {W TB d3 k6 : Nat} {A6 : Option Addr} {P : Nat → Prop} {it : Ty} {sides : List Ty} {names : List (List UInt8 × Ty)} {NA : Option Addr} {nk : Nat} {AV3 AV7 : Value} {ps : List Int} {t : Ty} (hW : W < w.heap.size) (h3 : WkI w3 W P it sides names NA nk AV3 ps) (n13 : w.heap.size + 2 ≤ w3.heap.size) (hz : Below w3.heap.size w3 wz) (hs7 : WkS wz w7 W AV3 AV7) (hTB : w3.heap.size < TB) (hTz : TB < wz.heap.size ∨ w7.heap.size ≤ TB)
    (far : ∀ b, b < w7.heap.size → b ≠ TB → wF.heap[b]? = w7.heap[b]?) (sF : w7.heap.size ≤ wF.heap.size) (hD : wz.heap[w3.heap.size]? = some (.cells #[.int .i64 t.kind, .slice A6 t.args.length k6] 34 (0, 0)))
    (hT : TyAt w3 (fun k => P k ∨ (w.heap.size + 2 ≤ k ∧ k < w3.heap.size ∧ some k ≠ AV3.ownBlock)) d3 (.agg #[.int .i64 t.kind, .slice A6 t.args.length k6]) t) : BoxT w wF P AV7 w3.heap.size t := by
 have hs7z := hs7.size
 have hsz := hz.size
 have hDl := zC hD
 have h3o : ∀ g, AV3.ownBlock = some g → g < w3.heap.size := h3.ownlt
 have hne : ∀ k, k < wz.heap.size → some k ≠ AV3.ownBlock → some k ≠ AV7.ownBlock := fun k hk hA e => by
  rcases hs7.own with e3 | e3
  · exact hA (e.trans e3)
  · have := e3 k e.symm
    omega
 have low : ∀ k, k < w3.heap.size → k ≠ W → some k ≠ AV3.ownBlock → wF.heap[k]? = w3.heap[k]? := fun k hk hW hA => (far k (by omega) (by omega)).trans ((hs7.block k (by omega) hW hA).trans (hz.block k hk))
 refine ⟨A6, k6, d3, (far _ (by omega) (by omega)).trans ((hs7.block _ hDl (by omega) (fun e => by have := h3o _ e.symm; omega)).trans hD), by omega, hT.move fun b hb hl => ?_⟩
 rcases hb with hb | ⟨k1, k2, k3⟩
 · exact ⟨.inl hb, fun _ => World.cell?_of_block (low b hl (h3.sep b hb).2.1 (h3.sep b hb).2.2)⟩
 · exact ⟨.inr ⟨k1, by omega, hne b (by omega) k3⟩, fun _ => World.cell?_of_block (low b hl (by omega) k3)⟩
set_option maxRecDepth 100000 in
set_option maxHeartbeats 1000000 in
theorem each_any (W : Nat) (P S : Nat → Prop) (it : Ty) (sides : List Ty) (names : List (List UInt8 × Ty)) (NA : Option Addr) (nk : Nat) (AV : Value) (ps : List Int) (nv : Value) (n kn : Nd) (dn : Nat) (r1 : Except (Int × List Int) Ty) (r2 : Ty → Except (Int × List Int) Ty) (w : World)
    (hW : WkI w W P it sides names NA nk AV ps) (hnl : names.length ≤ 500) (hnil : names.length = 0 → NA = none ∧ nk = 0) (hk1 : n.kids.length ≤ 64) (hkn : n.kids[1]? = some kn) (isMap : Bool) (hop : (n.op == [109, 97, 112]) = isMap) (hr1 : ∀ t, r1 = .ok t → t.kind = 7 → ∃ a, t.args = [a]) (hn : NdAt w S (dn + 1) nv n) (hS : ∀ k, S k → Fr w.heap.size W AV k)
    (hK1 : ∀ (w1 : World), WkI w1 W P it sides names NA nk AV ps → NdAt w1 S (dn + 1) nv n → (∀ k, S k → Fr w1.heap.size W AV k) →
      Calls Tryz.prog 93 #[.pointer (some ⟨W, 0, none⟩), nv, .int .i64 0] w1 fun e w2 => InOut w1 w2 W P it sides names NA nk AV ps e r1)
    (hK2 : ∀ (P' : Nat → Prop) (t : Ty) (AV' : Value) (g cap : Nat) (w1 : World), r1 = .ok t → t.kind = 7 → WkI w1 W P' it sides (names ++ [(kn.text, t.args.headD ty0)]) (some ⟨g, 0, none⟩) cap AV' ps → NdAt w1 S (dn + 1) nv n → (∀ k, S k → Fr w1.heap.size W AV' k) → (∀ k, P k → P' k) →
      Calls Tryz.prog 93 #[.pointer (some ⟨W, 0, none⟩), nv, .int .i64 ((n.kids.length : Int) - 1)] w1 fun e w2 => InOut w1 w2 W P' it sides (names ++ [(kn.text, t.args.headD ty0)]) (some ⟨g, 0, none⟩) cap AV' ps e (r2 (t.args.headD ty0))) :
    Calls Tryz.prog 59 #[.pointer (some ⟨W, 0, none⟩), nv] w fun e w' => InOut w w' W P it sides names NA nk AV ps e (eachR isMap ps r1 r2) := by
 have HN := Lib.hid hn
 obtain ⟨A, c, K, k, rfl, _, hlk, hkc⟩ := hn
 have hpl1 : 1 < n.kids.length := (List.getElem?_eq_some_iff.1 hkn).1
 have hpl : 0 < n.kids.length := by omega
 obtain ⟨kb, ko, rfl, hSk, hkj⟩ := hkc hpl
 obtain ⟨u0, u1, u2, u3, u4, u5, h0, h1, h2, h3, h4, h5, hkid⟩ := hkj 1 kn hkn
 obtain ⟨B1, j1, B2, j2, hkv⟩ := hkid.form
 obtain rfl : u2 = .string ⟨kn.text.toArray⟩ := by
  injection hkv with hkv
  have e := congrArg Array.toList hkv
  simp only [List.cons.injEq] at e
  exact e.2.2.1
 have hWl := hW.lt
 have HW := Lib.hid hW
 have HS := Lib.hid hS
 have HK1 := Lib.hid hK1
 have HK2 := Lib.hid hK2
 have l0 : (0 : Int) < (n.kids.length : Int) := by omega
 have l1 : (1 : Int) < (n.kids.length : Int) := by omega
 clear hW hS hK1 hK2 hkj hkc
 go_enter Tryz.func59, Tryz.ntmps59
 go_wp2_with (fail)
 obtain ⟨w1, hw1⟩ : ∃ w1, (w.alloc (.cells #[.string ⟨n.op.toArray⟩, .int .i64 n.int, .string ⟨n.text.toArray⟩, .int .i64 n.ty.kind, .slice A n.ty.args.length c, .slice (some ⟨kb, ko, none⟩) n.kids.length k] 41)).alloc (.cells #[.int .i64 0, .slice none 0 0] 34) = w1 := ⟨_, rfl⟩
 have hWI1 : WkI w1 W P it sides names NA nk AV ps := by rw [← hw1]; exact (HW.out.alloc _).alloc _
 have hb1 : Below w.heap.size w w1 := by
  rw [← hw1]
  exact ((Below.refl w.heap.size w).alloc (Nat.le_refl _) _).alloc (by simp) _
 have h10 : w1.heap[w.heap.size]? = some (.cells #[.string ⟨n.op.toArray⟩, .int .i64 n.int, .string ⟨n.text.toArray⟩, .int .i64 n.ty.kind, .slice A n.ty.args.length c, .slice (some ⟨kb, ko, none⟩) n.kids.length k] 41 (0, 0)) := by
  rw [← hw1]
  exact (Below.heap_alloc _ _ _ (by simp)).trans (heap_alloc_new w _)
 have h11 : w1.heap[w.heap.size + 1]? = some (.cells #[.int .i64 0, .slice none 0 0] 34 (0, 0)) := by
  rw [← hw1]
  simpa using heap_alloc_new (w.alloc (.cells #[.string ⟨n.op.toArray⟩, .int .i64 n.int, .string ⟨n.text.toArray⟩, .int .i64 n.ty.kind, .slice A n.ty.args.length c, .slice (some ⟨kb, ko, none⟩) n.kids.length k] 41)) (.cells #[.int .i64 0, .slice none 0 0] 34)
 have hs1 : w1.heap.size = w.heap.size + 2 := by rw [← hw1]; simp
 have HOWL : Hid (∀ g, AV.ownBlock = some g → g < w.heap.size) := Lib.hid fun g hg => (HW.out.own.lt g hg).2
 have HC1 := Lib.hid (HK1.out w1 hWI1 (HN.out.below hb1) (fun k hk => ⟨by have := (HS.out k hk).1; omega, (HS.out k hk).2⟩))
 have HB1 := Lib.hid hb1
 have H10 := Lib.hid h10
 have H11 := Lib.hid h11
 rw [hw1]
 clear hw1 hWI1 hb1 h10 h11
 refine HC1.out.mono ?_
 rintro e w3 ho
 cases r1 with
 | error x =>
   obtain ⟨no, qs⟩ := x
   obtain ⟨hno, AV3, rfl, hWI, hWS⟩ := ho
   have hs3 := hWS.size
   have hr3 := (hWS.block (w.heap.size + 1) (by omega) (by omega) (fun e => by have := HOWL.out _ e.symm; omega)).trans H11.out
   have hr4 := (Below.heap_alloc w3 (.cells #[.int .i64 0, .slice none 0 0] 34) _ (zC hr3)).trans hr3
   have x0 := zD (i := 0) hr4 rfl
   have x1 := zD (i := 1) hr4 rfl
   have xf0 := zI (i := 0) hr4
   have xf1 := zI (i := 1) hr4
   have HWI := Lib.hid hWI
   have HWS := Lib.hid ((WkS.of_below (W := W) (AV := AV) HB1.out).trans hWS)
   have HOW3 : Hid (∀ g, AV3.ownBlock = some g → g ≠ w.heap.size + 1) := Lib.hid fun g hg => by
    rcases hWS.own with e | e
    · rw [e] at hg
      have := HOWL.out g hg
      omega
    · have := e g hg
      omega
   have hno' : (no == 0) = false := by simp [hno]
   clear hWI hWS hr3 hr4
   go_wp2_with (fail)
   refine bodyPost_ret (v := .tuple #[.agg #[.int .i64 0, .slice none 0 0], .int .i64 no]) (by simp [results, Tryz.results59, go_sem, x0, x1]) rfl ?_
   refine kid_err HW.out HWI.out HWS.out hno HOW3.out (fun b hb hn1 => ?_) (by simp [World.setCell]) ⟨rfl, rfl, rfl⟩
   rw [Below.heap_setCell _ _ _ _ (by show b ≠ w.heap.size + 1; exact hn1), Below.heap_setCell _ _ _ _ (by show b ≠ w.heap.size + 1; exact hn1)]
   exact Below.heap_alloc w3 _ b hb
 | ok t =>
   obtain ⟨AV3, v, d3, rfl, hT3, hWI, hWS⟩ := ho
   obtain ⟨A6, k6, rfl⟩ := hT3.form
   have hs3 := hWS.size
   have hr3 := (hWS.block (w.heap.size + 1) (by omega) (by omega) (fun e => by have := HOWL.out _ e.symm; omega)).trans H11.out
   have hn3 := (hWS.block w.heap.size (by omega) (by omega) (fun e => by have := HOWL.out _ e.symm; omega)).trans H10.out
   have HT3 := Lib.hid hT3
   have HWI := Lib.hid hWI
   have HWS := Lib.hid ((WkS.of_below (W := W) (AV := AV) HB1.out).trans hWS)
   have HR3 := Lib.hid hr3
   have HN3 := Lib.hid hn3
   have HO3 : Hid (∀ g, AV3.ownBlock = some g → g < w3.heap.size ∧ (g < w.heap.size ∨ w.heap.size + 2 ≤ g)) := Lib.hid fun g hg => ⟨hWI.ownlt g hg, by
    rcases hWS.own with e | e
    · rw [e] at hg
      have := HOWL.out g hg
      omega
    · have := e g hg
      omega⟩
   by_cases h7 : t.kind = 7
   · obtain ⟨a, ha⟩ := hr1 t rfl h7
     have h7' : (t.kind != 7) = false := by simp [h7]
     have H7 := Lib.hid h7
     clear h7
     have hlaN : 0 < t.args.length := by simp [ha]
     have hlaE : ¬ t.args = [] := by simp [ha]
     have hla : (0 : Int) < (t.args.length : Int) := by simp [ha]
     obtain ⟨dd, rfl, hAR⟩ := ty_args hT3
     obtain ⟨ab, ao, hA6, hab, habs⟩ := hAR (by simp [ha])
     obtain ⟨ua, ub, ha0, ha1, hTa⟩ := habs 0 a (by rw [ha]; rfl)
     obtain ⟨Aa, ka, rfl, rfl⟩ := ty_parts hTa
     subst hA6
     have ha0 : w3.cell? ⟨ab, ao, none⟩ = some (.int .i64 a.kind) := by simpa using ha0
     have ha1 : w3.cell? ⟨ab, ao + 1, none⟩ = some (.slice Aa a.args.length ka) := by simpa using ha1
     rw [hs1] at hab hTa hT3
     have hab3 : ab < w3.heap.size := World.block_lt_of_cell? w3 _ ha0
     have habW : ab ≠ W ∧ ab ≠ w.heap.size ∧ ab ≠ w.heap.size + 1 ∧ some ab ≠ AV3.ownBlock := by
      rcases hab with h | ⟨h1, h2, h3⟩
      · exact ⟨(hWI.sep ab h).2.1, by have := (HW.out.sep ab h).1; omega, by have := (HW.out.sep ab h).1; omega, (hWI.sep ab h).2.2⟩
      · exact ⟨by omega, by omega, by omega, h3⟩
     have n13 : w.heap.size + 2 ≤ w3.heap.size := by omega
     have hW2 : W < w.heap.size + 2 := by omega
     have HS3 : Hid (∀ k, S k → Fr w3.heap.size W AV3 k ∧ w3.heap[k]? = w1.heap[k]?) := Lib.hid fun k hk => Fr.step hWS ⟨by have := (HS.out k hk).1; omega, (HS.out k hk).2⟩
     have k2 := ((World.cell?_of_block ((HS3.out kb hSk).2.trans (HB1.out.block kb (HS.out kb hSk).1))).trans h2)
     have HN1 := Lib.hid (HN.out.below HB1.out)
     have HTa : Hid (∀ BK, TyAt w3 (fun k => (P k ∨ (w.heap.size + 2 ≤ k ∧ k < w3.heap.size ∧ some k ≠ AV3.ownBlock)) ∨ k = BK) dd (.agg #[.int .i64 a.kind, .slice Aa a.args.length ka]) a) := Lib.hid fun BK => hTa.move fun b hb _ => ⟨.inl hb, fun _ => rfl⟩
     have HQC : Hid (∀ (wz : World) (BK k : Nat), w3.heap.size ≤ BK → BK < wz.heap.size → (P k ∨ (w.heap.size + 2 ≤ k ∧ k < w3.heap.size ∧ some k ≠ AV3.ownBlock)) ∨ k = BK → P k ∨ (w.heap.size + 2 ≤ k ∧ k < w3.heap.size ∧ some k ≠ AV3.ownBlock) ∨ (w3.heap.size ≤ k ∧ k < wz.heap.size)) := Lib.hid fun wz BK k h1 h2 h => by
      rcases h with (h | h) | h
      · exact .inl h
      · exact .inr (.inl h)
      · exact .inr (.inr ⟨by omega, by omega⟩)
     have HWN : Hid (∀ (wz : World) (BK : Nat), Below w3.heap.size w3 wz → w3.heap.size ≤ BK → wz.heap[BK]? = some (.cells #[.string ⟨kn.text.toArray⟩, .int .i64 a.kind, .slice Aa a.args.length ka] 160 (0, 0)) →
         Calls Tryz.prog 94 #[.pointer (some ⟨W, 0, none⟩), .agg #[.string ⟨n.op.toArray⟩, .int .i64 n.int, .string ⟨n.text.toArray⟩, .int .i64 n.ty.kind, .slice A n.ty.args.length c, .slice (some ⟨kb, ko, none⟩) n.kids.length k], .slice (some ⟨BK, 0, none⟩) 1 1] wz fun e w' => WnOut wz w' W P (fun k => (P k ∨ (w.heap.size + 2 ≤ k ∧ k < w3.heap.size ∧ some k ≠ AV3.ownBlock)) ∨ k = BK) it sides names NA nk AV3 ps e (r2 a)) := Lib.hid fun wz BK hb hBK hblk => by
      have hlz := zC hblk
      have hfr := fr_of (wz := wz) HWI.out (fun k hk => HQC.out wz BK k hBK hlz hk) hW2 hb.size
      refine within_any W P _ S it sides names [(kn.text, a)] NA (some ⟨BK, 0, none⟩) nk 1 dd AV3 ps _ n dn (r2 a) wz (HWI.out.low_ hb) hnl hnil (by simp) (by simp) (bty_one (x := (kn.text, a)) hblk (.inr rfl) ((HTa.out BK).below hb)) hfr hpl hk1 ((HN1.out.move fun b hb' _ => ⟨hb', fun _ => World.cell?_of_block (HS3.out b hb').2⟩).below hb) (fun k hk => ⟨by have := (HS3.out k hk).1.1; have := hb.size; omega, (HS3.out k hk).1.2⟩) ?_
      intro g cap w5 hw5 hn5 hs5
      have hk2 := fun P' => HK2.out P' t AV3 g cap w5 rfl H7.out
      simp only [show t.args.headD ty0 = a by rw [ha]; rfl] at hk2
      exact hk2 _ hw5 hn5 hs5 (fun k hk => .inl hk)
     have hb4 := (Below.refl w3.heap.size w3).alloc (Nat.le_refl _) (.cells #[.int .i64 t.kind, .slice (some ⟨ab, ao, none⟩) t.args.length k6] 34)
     have hd4 := heap_alloc_new w3 (.cells #[.int .i64 t.kind, .slice (some ⟨ab, ao, none⟩) t.args.length k6] 34)
     have hs4 : (w3.alloc (.cells #[.int .i64 t.kind, .slice (some ⟨ab, ao, none⟩) t.args.length k6] 34)).heap.size = w3.heap.size + 1 := by simp
     have HT3' := Lib.hid hT3
     clear hT3 hWI hWS hr3 hn3 h0 h1 h2 h3 h4 h5 hAR hab habs hTa HT3
     have hkb3 : kb < w3.heap.size := (HS3.out kb hSk).1.1
     have hkb0 : kb < w.heap.size := (HS.out kb hSk).1
     have hkbW : kb ≠ W := (HS3.out kb hSk).1.2.1
     have HKA : Hid (some kb ≠ AV3.ownBlock) := Lib.hid (HS3.out kb hSk).1.2.2
     have HNA : Hid (some w.heap.size ≠ AV3.ownBlock) := Lib.hid (fun e => by have := (HO3.out _ e.symm).2; omega)
     have HRA : Hid (some (w.heap.size + 1) ≠ AV3.ownBlock) := Lib.hid (fun e => by have := (HO3.out _ e.symm).2; omega)
     have HDA : Hid (some w3.heap.size ≠ AV3.ownBlock) := Lib.hid (fun e => by have := (HO3.out _ e.symm).1; omega)
     have HAA : Hid (some ab ≠ AV3.ownBlock) := Lib.hid habW.2.2.2
     have habW1 := habW.1
     have habW2 := habW.2.1
     have habW3 := habW.2.2.1
     clear habW
     have dk4 := zD (i := 0) hd4 rfl
     have HHA := Lib.hid ha
     clear ha
     go_upto_region 6 with (fail)
     generalize w3.alloc (.cells #[.int .i64 t.kind, .slice (some ⟨ab, ao, none⟩) t.args.length k6] 34) = w4 at *
     have k2 := (hb4.cell (p := ⟨kb, ko + 8, none⟩) hkb3).trans (by simpa using k2)
     have ha0 := (hb4.cell (p := ⟨ab, ao, none⟩) hab3).trans ha0
     have ha1 := (hb4.cell (p := ⟨ab, ao + 1, none⟩) hab3).trans ha1
     have hn4 := (hb4.block w.heap.size (by omega)).trans HN3.out
     have hr4 := (hb4.block (w.heap.size + 1) (by omega)).trans HR3.out
     have n0 : w4.cell? ⟨w.heap.size, 0, none⟩ = some (.string ⟨n.op.toArray⟩) := zD (i := 0) hn4 rfl
     have n1 : w4.cell? ⟨w.heap.size, 1, none⟩ = some (.int .i64 n.int) := zD (i := 1) hn4 rfl
     have n2 : w4.cell? ⟨w.heap.size, 2, none⟩ = some (.string ⟨n.text.toArray⟩) := zD (i := 2) hn4 rfl
     have n3 : w4.cell? ⟨w.heap.size, 3, none⟩ = some (.int .i64 n.ty.kind) := zD (i := 3) hn4 rfl
     have n4 : w4.cell? ⟨w.heap.size, 4, none⟩ = some (.slice A n.ty.args.length c) := zD (i := 4) hn4 rfl
     have n5 : w4.cell? ⟨w.heap.size, 5, none⟩ = some (.slice (some ⟨kb, ko, none⟩) n.kids.length k) := zD (i := 5) hn4 rfl
     have d0 : w4.cell? ⟨w3.heap.size, 0, none⟩ = some (.int .i64 t.kind) := zD (i := 0) hd4 rfl
     have d1 : w4.cell? ⟨w3.heap.size, 1, none⟩ = some (.slice (some ⟨ab, ao, none⟩) t.args.length k6) := zD (i := 1) hd4 rfl
     obtain ⟨r, hr⟩ : ∃ r, r = r2 a := ⟨_, rfl⟩
     rw [← hr] at HWN
     have HR2 := Lib.hid hr
     clear hr
     go_cut [7, 8] from 23 to 39 (fun s7 s8 wx => EcOut w wx W P it sides names NA nk AV ps #[.string ⟨n.op.toArray⟩, .int .i64 n.int, .string ⟨n.text.toArray⟩, .int .i64 n.ty.kind, .slice A n.ty.args.length c, .slice (some ⟨kb, ko, none⟩) n.kids.length k] w3.heap.size t s7 s8 r)
     case first =>
      have hs4a : (w4.alloc (.cells #[.int .i64 0, .slice none 0 0] 34)).heap.size = w3.heap.size + 2 := by simp [hs4]
      have hs4b : (w4.alloc (.cells #[.string ⟨kn.text.toArray⟩, .int .i64 a.kind, .slice Aa a.args.length ka] 160)).heap.size = w3.heap.size + 2 := by simp [hs4]
      have HBL3 : Hid (w4.heap.size = w3.heap.size + 1) := Lib.hid hs4
      have hB41 : Below w4.heap.size w4 ((w4.alloc (.cells #[.int .i64 0, .slice none 0 0] 34)).alloc (.cells #[.string ⟨kn.text.toArray⟩, .int .i64 a.kind, .slice Aa a.args.length ka] 160)).drew := ((((Below.refl _ w4).alloc (Nat.le_refl _) _).alloc (by omega) _)).drew
      have hB42 : Below w4.heap.size w4 ((w4.alloc (.cells #[.string ⟨kn.text.toArray⟩, .int .i64 a.kind, .slice Aa a.args.length ka] 160)).alloc (.cells #[.int .i64 0, .slice none 0 0] 34)).drew := ((((Below.refl _ w4).alloc (Nat.le_refl _) _).alloc (by omega) _)).drew
      have hB43 : Below w4.heap.size w4 (w4.alloc (.cells #[.string ⟨kn.text.toArray⟩, .int .i64 a.kind, .slice Aa a.args.length ka] 160)).drew := ((Below.refl _ w4).alloc (Nat.le_refl _) _).drew
      have hZB1 : (((w4.alloc (.cells #[.int .i64 0, .slice none 0 0] 34)).alloc (.cells #[.string ⟨kn.text.toArray⟩, .int .i64 a.kind, .slice Aa a.args.length ka] 160)).drew).heap[w3.heap.size + 2]? = some (.cells #[.string ⟨kn.text.toArray⟩, .int .i64 a.kind, .slice Aa a.args.length ka] 160 (0, 0)) := by
       have h := heap_alloc_new (w4.alloc (.cells #[.int .i64 0, .slice none 0 0] 34)) (.cells #[.string ⟨kn.text.toArray⟩, .int .i64 a.kind, .slice Aa a.args.length ka] 160)
       rw [hs4a] at h
       exact h
      have hZB3 : (w4.alloc (.cells #[.string ⟨kn.text.toArray⟩, .int .i64 a.kind, .slice Aa a.args.length ka] 160)).heap[w3.heap.size + 1]? = some (.cells #[.string ⟨kn.text.toArray⟩, .int .i64 a.kind, .slice Aa a.args.length ka] 160 (0, 0)) := by
       have h := heap_alloc_new w4 (.cells #[.string ⟨kn.text.toArray⟩, .int .i64 a.kind, .slice Aa a.args.length ka] 160)
       rw [hs4] at h
       exact h
      have hZB2 : (((w4.alloc (.cells #[.string ⟨kn.text.toArray⟩, .int .i64 a.kind, .slice Aa a.args.length ka] 160)).alloc (.cells #[.int .i64 0, .slice none 0 0] 34)).drew).heap[w3.heap.size + 1]? = some (.cells #[.string ⟨kn.text.toArray⟩, .int .i64 a.kind, .slice Aa a.args.length ka] 160 (0, 0)) := (Below.heap_alloc _ _ _ (by omega)).trans hZB3
      have hZT1 : (((w4.alloc (.cells #[.int .i64 0, .slice none 0 0] 34)).alloc (.cells #[.string ⟨kn.text.toArray⟩, .int .i64 a.kind, .slice Aa a.args.length ka] 160)).drew).heap[w3.heap.size + 1]? = some (.cells #[.int .i64 0, .slice none 0 0] 34 (0, 0)) := by
       have h := heap_alloc_new w4 (.cells #[.int .i64 0, .slice none 0 0] 34)
       rw [hs4] at h
       exact (Below.heap_alloc _ _ _ (by omega)).trans h
      have hZT2 : (((w4.alloc (.cells #[.string ⟨kn.text.toArray⟩, .int .i64 a.kind, .slice Aa a.args.length ka] 160)).alloc (.cells #[.int .i64 0, .slice none 0 0] 34)).drew).heap[w3.heap.size + 2]? = some (.cells #[.int .i64 0, .slice none 0 0] 34 (0, 0)) := by
       have h := heap_alloc_new (w4.alloc (.cells #[.string ⟨kn.text.toArray⟩, .int .i64 a.kind, .slice Aa a.args.length ka] 160)) (.cells #[.int .i64 0, .slice none 0 0] 34)
       rw [hs4b] at h
       exact h
      have hZs1 : (((w4.alloc (.cells #[.int .i64 0, .slice none 0 0] 34)).alloc (.cells #[.string ⟨kn.text.toArray⟩, .int .i64 a.kind, .slice Aa a.args.length ka] 160)).drew).heap.size = w3.heap.size + 3 := by show ((w4.alloc _).alloc _).heap.size = _; simp [hs4]
      have hZs2 : (((w4.alloc (.cells #[.string ⟨kn.text.toArray⟩, .int .i64 a.kind, .slice Aa a.args.length ka] 160)).alloc (.cells #[.int .i64 0, .slice none 0 0] 34)).drew).heap.size = w3.heap.size + 3 := by show ((w4.alloc _).alloc _).heap.size = _; simp [hs4]
      have hZs3 : ((w4.alloc (.cells #[.string ⟨kn.text.toArray⟩, .int .i64 a.kind, .slice Aa a.args.length ka] 160)).drew).heap.size = w3.heap.size + 2 := by show (w4.alloc _).heap.size = _; simp [hs4]
      have HC1 := Lib.hid (HWN.out _ (w3.heap.size + 2) (hb4.trans (hB41.mono (by omega))) (by omega) hZB1)
      have HC2 := Lib.hid (HWN.out _ (w3.heap.size + 1) (hb4.trans (hB42.mono (by omega))) (by omega) hZB2)
      have HC3 := Lib.hid (HWN.out _ (w3.heap.size + 1) (hb4.trans (hB43.mono (by omega))) (by omega) hZB3)
      have HZ1 := Lib.hid (And.intro hB41 (And.intro hZT1 hZs1))
      have HZ2 := Lib.hid (And.intro hB42 (And.intro hZT2 hZs2))
      have HZ3 := Lib.hid (And.intro hB43 hZs3)
      have HFAR : Hid (∀ (wz w7 : World) (AV7 : Value), Below w4.heap.size w4 wz → WkS wz w7 W AV3 AV7 → (∀ k, k < w4.heap.size → k ≠ W → some k ≠ AV3.ownBlock → w7.heap[k]? = w4.heap[k]?) ∧ w4.heap.size ≤ w7.heap.size) := Lib.hid fun wz w7 AV7 hz h7 => ⟨fun k hk hW hA => (h7.block k (by have := hz.size; omega) hW hA).trans (hz.block k hk), by have := hz.size; have := h7.size; omega⟩
      have hWl3 : W < w3.heap.size := by omega
      clear hB41 hB42 hB43 hZB1 hZB2 hZB3 hZT1 hZT2 hZs1 hZs2 hZs3 hs4a hs4b
      cases r with
      | ok u =>
        go_region_held3 (fun w' => w'.cell? ⟨w.heap.size, 0, none⟩ = some (.string ⟨n.op.toArray⟩) ∧ w'.cell? ⟨w.heap.size, 1, none⟩ = some (.int .i64 n.int) ∧ w'.cell? ⟨w.heap.size, 2, none⟩ = some (.string ⟨n.text.toArray⟩) ∧ w'.cell? ⟨w.heap.size, 3, none⟩ = some (.int .i64 n.ty.kind) ∧ w'.cell? ⟨w.heap.size, 4, none⟩ = some (.slice A n.ty.args.length c) ∧ w'.cell? ⟨w.heap.size, 5, none⟩ = some (.slice (some ⟨kb, ko, none⟩) n.kids.length k) ∧ w'.cell? ⟨kb, ko + 8, none⟩ = some (.string ⟨kn.text.toArray⟩) ∧ w'.cell? ⟨w3.heap.size, 0, none⟩ = some (.int .i64 t.kind) ∧ w'.cell? ⟨w3.heap.size, 1, none⟩ = some (.slice (some ⟨ab, ao, none⟩) t.args.length k6) ∧ w'.cell? ⟨ab, ao, none⟩ = some (.int .i64 a.kind) ∧ w'.cell? ⟨ab, ao + 1, none⟩ = some (.slice Aa a.args.length ka))
        (((refine ⟨?_, ?_, ?_, ?_, ?_, ?_, ?_, ?_, ?_, ?_, ?_⟩ <;> (repeat' (first | with_reducible assumption | with_reducible refine zX ?_ | with_reducible refine cell_alloc2 ?_ ?_ | with_reducible refine cell_set_some ?_ ?_ | omega | (show _ < w4.heap.size; omega) | (simp only [World.size_alloc]; omega) | (dsimp only; omega))))))
         (first
         | (go_at_call 94; (with_reducible refine HC1.out.mono ?_); rintro e w7 ⟨AV7, v7, d7, rfl, hT7, hWI7, hWS7⟩; obtain ⟨A9, k9, rfl⟩ := hT7.form; have HT7 := Lib.hid hT7; clear hT7; have HWI7 := Lib.hid hWI7; have HWS7 := Lib.hid hWS7; have hF := HFAR.out _ w7 AV7 HZ1.out.1 hWS7; have tb := (hWS7.block (w3.heap.size + 1) (by rw [HZ1.out.2.2]; omega) (by omega) (fun e => by have := (HO3.out _ e.symm).1; omega)).trans HZ1.out.2.1; have tb0 := zD (i := 0) tb rfl; have tb1 := zD (i := 1) tb rfl; have tf0 := zI (i := 0) tb; have tf1 := zI (i := 1) tb; have HTB1 := Lib.hid tb; clear tb; clear hWI7 hWS7; have m0 : w7.cell? ⟨w.heap.size, 0, none⟩ = some (.string ⟨n.op.toArray⟩) := (World.cell?_of_block (hF.1 w.heap.size (by omega) (by omega) HNA.out)).trans n0; have m1 : w7.cell? ⟨w.heap.size, 1, none⟩ = some (.int .i64 n.int) := (World.cell?_of_block (hF.1 w.heap.size (by omega) (by omega) HNA.out)).trans n1; have m2 : w7.cell? ⟨w.heap.size, 2, none⟩ = some (.string ⟨n.text.toArray⟩) := (World.cell?_of_block (hF.1 w.heap.size (by omega) (by omega) HNA.out)).trans n2; have m3 : w7.cell? ⟨w.heap.size, 3, none⟩ = some (.int .i64 n.ty.kind) := (World.cell?_of_block (hF.1 w.heap.size (by omega) (by omega) HNA.out)).trans n3; have m4 : w7.cell? ⟨w.heap.size, 4, none⟩ = some (.slice A n.ty.args.length c) := (World.cell?_of_block (hF.1 w.heap.size (by omega) (by omega) HNA.out)).trans n4; have m5 : w7.cell? ⟨w.heap.size, 5, none⟩ = some (.slice (some ⟨kb, ko, none⟩) n.kids.length k) := (World.cell?_of_block (hF.1 w.heap.size (by omega) (by omega) HNA.out)).trans n5; have mk : w7.cell? ⟨kb, ko + 8, none⟩ = some (.string ⟨kn.text.toArray⟩) := (World.cell?_of_block (hF.1 kb (by omega) hkbW HKA.out)).trans k2; have md0 : w7.cell? ⟨w3.heap.size, 0, none⟩ = some (.int .i64 t.kind) := (World.cell?_of_block (hF.1 w3.heap.size (by omega) (by omega) HDA.out)).trans d0; have md1 : w7.cell? ⟨w3.heap.size, 1, none⟩ = some (.slice (some ⟨ab, ao, none⟩) t.args.length k6) := (World.cell?_of_block (hF.1 w3.heap.size (by omega) (by omega) HDA.out)).trans d1; have ma0 : w7.cell? ⟨ab, ao, none⟩ = some (.int .i64 a.kind) := (World.cell?_of_block (hF.1 ab (by omega) habW1 HAA.out)).trans ha0; have ma1 : w7.cell? ⟨ab, ao + 1, none⟩ = some (.slice Aa a.args.length ka) := (World.cell?_of_block (hF.1 ab (by omega) habW1 HAA.out)).trans ha1; have hs7 := hF.2; clear hF)
         | (go_at_call 94; (with_reducible refine HC2.out.mono ?_); rintro e w7 ⟨AV7, v7, d7, rfl, hT7, hWI7, hWS7⟩; obtain ⟨A9, k9, rfl⟩ := hT7.form; have HT7 := Lib.hid hT7; clear hT7; have HWI7 := Lib.hid hWI7; have HWS7 := Lib.hid hWS7; have hF := HFAR.out _ w7 AV7 HZ2.out.1 hWS7; have tb := (hWS7.block (w3.heap.size + 2) (by rw [HZ2.out.2.2]; omega) (by omega) (fun e => by have := (HO3.out _ e.symm).1; omega)).trans HZ2.out.2.1; have tb0 := zD (i := 0) tb rfl; have tb1 := zD (i := 1) tb rfl; have tf0 := zI (i := 0) tb; have tf1 := zI (i := 1) tb; have HTB2 := Lib.hid tb; clear tb; clear hWI7 hWS7; have m0 : w7.cell? ⟨w.heap.size, 0, none⟩ = some (.string ⟨n.op.toArray⟩) := (World.cell?_of_block (hF.1 w.heap.size (by omega) (by omega) HNA.out)).trans n0; have m1 : w7.cell? ⟨w.heap.size, 1, none⟩ = some (.int .i64 n.int) := (World.cell?_of_block (hF.1 w.heap.size (by omega) (by omega) HNA.out)).trans n1; have m2 : w7.cell? ⟨w.heap.size, 2, none⟩ = some (.string ⟨n.text.toArray⟩) := (World.cell?_of_block (hF.1 w.heap.size (by omega) (by omega) HNA.out)).trans n2; have m3 : w7.cell? ⟨w.heap.size, 3, none⟩ = some (.int .i64 n.ty.kind) := (World.cell?_of_block (hF.1 w.heap.size (by omega) (by omega) HNA.out)).trans n3; have m4 : w7.cell? ⟨w.heap.size, 4, none⟩ = some (.slice A n.ty.args.length c) := (World.cell?_of_block (hF.1 w.heap.size (by omega) (by omega) HNA.out)).trans n4; have m5 : w7.cell? ⟨w.heap.size, 5, none⟩ = some (.slice (some ⟨kb, ko, none⟩) n.kids.length k) := (World.cell?_of_block (hF.1 w.heap.size (by omega) (by omega) HNA.out)).trans n5; have mk : w7.cell? ⟨kb, ko + 8, none⟩ = some (.string ⟨kn.text.toArray⟩) := (World.cell?_of_block (hF.1 kb (by omega) hkbW HKA.out)).trans k2; have md0 : w7.cell? ⟨w3.heap.size, 0, none⟩ = some (.int .i64 t.kind) := (World.cell?_of_block (hF.1 w3.heap.size (by omega) (by omega) HDA.out)).trans d0; have md1 : w7.cell? ⟨w3.heap.size, 1, none⟩ = some (.slice (some ⟨ab, ao, none⟩) t.args.length k6) := (World.cell?_of_block (hF.1 w3.heap.size (by omega) (by omega) HDA.out)).trans d1; have ma0 : w7.cell? ⟨ab, ao, none⟩ = some (.int .i64 a.kind) := (World.cell?_of_block (hF.1 ab (by omega) habW1 HAA.out)).trans ha0; have ma1 : w7.cell? ⟨ab, ao + 1, none⟩ = some (.slice Aa a.args.length ka) := (World.cell?_of_block (hF.1 ab (by omega) habW1 HAA.out)).trans ha1; have hs7 := hF.2; clear hF)
         | (go_at_call 94; (with_reducible refine HC3.out.mono ?_); rintro e w7 ⟨AV7, v7, d7, rfl, hT7, hWI7, hWS7⟩; obtain ⟨A9, k9, rfl⟩ := hT7.form; have HT7 := Lib.hid hT7; clear hT7; have HWI7 := Lib.hid hWI7; have HWS7 := Lib.hid hWS7; have hF := HFAR.out _ w7 AV7 HZ3.out.1 hWS7; have HTB3 := Lib.hid True.intro; clear hWI7 hWS7; have m0 : w7.cell? ⟨w.heap.size, 0, none⟩ = some (.string ⟨n.op.toArray⟩) := (World.cell?_of_block (hF.1 w.heap.size (by omega) (by omega) HNA.out)).trans n0; have m1 : w7.cell? ⟨w.heap.size, 1, none⟩ = some (.int .i64 n.int) := (World.cell?_of_block (hF.1 w.heap.size (by omega) (by omega) HNA.out)).trans n1; have m2 : w7.cell? ⟨w.heap.size, 2, none⟩ = some (.string ⟨n.text.toArray⟩) := (World.cell?_of_block (hF.1 w.heap.size (by omega) (by omega) HNA.out)).trans n2; have m3 : w7.cell? ⟨w.heap.size, 3, none⟩ = some (.int .i64 n.ty.kind) := (World.cell?_of_block (hF.1 w.heap.size (by omega) (by omega) HNA.out)).trans n3; have m4 : w7.cell? ⟨w.heap.size, 4, none⟩ = some (.slice A n.ty.args.length c) := (World.cell?_of_block (hF.1 w.heap.size (by omega) (by omega) HNA.out)).trans n4; have m5 : w7.cell? ⟨w.heap.size, 5, none⟩ = some (.slice (some ⟨kb, ko, none⟩) n.kids.length k) := (World.cell?_of_block (hF.1 w.heap.size (by omega) (by omega) HNA.out)).trans n5; have mk : w7.cell? ⟨kb, ko + 8, none⟩ = some (.string ⟨kn.text.toArray⟩) := (World.cell?_of_block (hF.1 kb (by omega) hkbW HKA.out)).trans k2; have md0 : w7.cell? ⟨w3.heap.size, 0, none⟩ = some (.int .i64 t.kind) := (World.cell?_of_block (hF.1 w3.heap.size (by omega) (by omega) HDA.out)).trans d0; have md1 : w7.cell? ⟨w3.heap.size, 1, none⟩ = some (.slice (some ⟨ab, ao, none⟩) t.args.length k6) := (World.cell?_of_block (hF.1 w3.heap.size (by omega) (by omega) HDA.out)).trans d1; have ma0 : w7.cell? ⟨ab, ao, none⟩ = some (.int .i64 a.kind) := (World.cell?_of_block (hF.1 ab (by omega) habW1 HAA.out)).trans ha0; have ma1 : w7.cell? ⟨ab, ao + 1, none⟩ = some (.slice Aa a.args.length ka) := (World.cell?_of_block (hF.1 ab (by omega) habW1 HAA.out)).trans ha1; have hs7 := hF.2; clear hF)
         | fail)
        all_goals go_wp2_with (fail)
        all_goals go_meet
        all_goals first
         | (
         have hmark := HTB1.out
         have hzs := HZ1.out.2.2
         have hBz := hb4.trans (HZ1.out.1.mono (by omega))
         have hs7z := HWS7.out.size
         have hTz : w3.heap.size + 1 < (((w4.alloc (.cells #[.int .i64 0, .slice none 0 0] 34)).alloc (.cells #[.string ⟨kn.text.toArray⟩, .int .i64 a.kind, .slice Aa a.args.length ka] 160)).drew).heap.size ∨ w7.heap.size ≤ w3.heap.size + 1 := by omega
         have hTB : w3.heap.size < w3.heap.size + 1 := by omega
         have far : ∀ b, b < w7.heap.size → b ≠ w3.heap.size + 1 → ((w7.setCell ⟨w3.heap.size + 1, 0, none⟩ (.int .i64 u.kind)).setCell ⟨w3.heap.size + 1, 1, none⟩ (.slice A9 u.args.length k9)).heap[b]? = w7.heap[b]? := fun b hb hne => by
          rw [Below.heap_setCell _ _ _ _ (by show b ≠ w3.heap.size + 1; exact hne), Below.heap_setCell _ _ _ _ (by show b ≠ w3.heap.size + 1; exact hne)]
         have sF : w7.heap.size ≤ ((w7.setCell ⟨w3.heap.size + 1, 0, none⟩ (.int .i64 u.kind)).setCell ⟨w3.heap.size + 1, 1, none⟩ (.slice A9 u.args.length k9)).heap.size := by simp [World.setCell]
         have hEC := ec_end HW.out HWS.out HO3.out n13 hBz HWI7.out HWS7.out (Nat.le_of_lt hTB) hTz far sF ⟨rfl, rfl, rfl⟩ HN3.out HR3.out
         have hBU := box_u (BK := w3.heap.size + 2) (fun k hk => (HW.out.sep k hk).1) (fun g hg => (HO3.out g hg).1) n13 hBz.size HWI7.out HWS7.out (Nat.le_of_lt hTB) hTz (by omega) (by omega) (by omega) far sF (Bxs.set (vs := #[.int .i64 u.kind, .slice none 0 0]) (Bxs.set (vs := #[.int .i64 0, .slice none 0 0]) HTB1.out 0 (.int .i64 u.kind)) 1 (.slice A9 u.args.length k9)) HT7.out
         have hBT := box_t hWl HWI.out n13 hBz HWS7.out hTB hTz far sF ((HZ1.out.1.block w3.heap.size (by omega)).trans hd4) HT3'.out
         exact ⟨w3.heap.size + 1, AV7, rfl, rfl, hEC, hBU, hBT⟩)
         | (
         have hmark := HTB2.out
         have hzs := HZ2.out.2.2
         have hBz := hb4.trans (HZ2.out.1.mono (by omega))
         have hs7z := HWS7.out.size
         have hTz : w3.heap.size + 2 < (((w4.alloc (.cells #[.string ⟨kn.text.toArray⟩, .int .i64 a.kind, .slice Aa a.args.length ka] 160)).alloc (.cells #[.int .i64 0, .slice none 0 0] 34)).drew).heap.size ∨ w7.heap.size ≤ w3.heap.size + 2 := by omega
         have hTB : w3.heap.size < w3.heap.size + 2 := by omega
         have far : ∀ b, b < w7.heap.size → b ≠ w3.heap.size + 2 → ((w7.setCell ⟨w3.heap.size + 2, 0, none⟩ (.int .i64 u.kind)).setCell ⟨w3.heap.size + 2, 1, none⟩ (.slice A9 u.args.length k9)).heap[b]? = w7.heap[b]? := fun b hb hne => by
          rw [Below.heap_setCell _ _ _ _ (by show b ≠ w3.heap.size + 2; exact hne), Below.heap_setCell _ _ _ _ (by show b ≠ w3.heap.size + 2; exact hne)]
         have sF : w7.heap.size ≤ ((w7.setCell ⟨w3.heap.size + 2, 0, none⟩ (.int .i64 u.kind)).setCell ⟨w3.heap.size + 2, 1, none⟩ (.slice A9 u.args.length k9)).heap.size := by simp [World.setCell]
         have hEC := ec_end HW.out HWS.out HO3.out n13 hBz HWI7.out HWS7.out (Nat.le_of_lt hTB) hTz far sF ⟨rfl, rfl, rfl⟩ HN3.out HR3.out
         have hBU := box_u (BK := w3.heap.size + 1) (fun k hk => (HW.out.sep k hk).1) (fun g hg => (HO3.out g hg).1) n13 hBz.size HWI7.out HWS7.out (Nat.le_of_lt hTB) hTz (by omega) (by omega) (by omega) far sF (Bxs.set (vs := #[.int .i64 u.kind, .slice none 0 0]) (Bxs.set (vs := #[.int .i64 0, .slice none 0 0]) HTB2.out 0 (.int .i64 u.kind)) 1 (.slice A9 u.args.length k9)) HT7.out
         have hBT := box_t hWl HWI.out n13 hBz HWS7.out hTB hTz far sF ((HZ2.out.1.block w3.heap.size (by omega)).trans hd4) HT3'.out
         exact ⟨w3.heap.size + 2, AV7, rfl, rfl, hEC, hBU, hBT⟩)
         | (
         have hmark := HTB3.out
         have hzs := HZ3.out.2
         have hBz := hb4.trans (HZ3.out.1.mono (by omega))
         have hs7z := HWS7.out.size
         have hTz : w7.heap.size < ((w4.alloc (.cells #[.string ⟨kn.text.toArray⟩, .int .i64 a.kind, .slice Aa a.args.length ka] 160)).drew).heap.size ∨ w7.heap.size ≤ w7.heap.size := by omega
         have hTB : w3.heap.size < w7.heap.size := by omega
         have far : ∀ b, b < w7.heap.size → b ≠ w7.heap.size → (w7.alloc (.cells #[(.int .i64 u.kind), (.slice A9 u.args.length k9)] 34)).heap[b]? = w7.heap[b]? := fun b hb hne => by
          exact Below.heap_alloc w7 _ b hb
         have sF : w7.heap.size ≤ (w7.alloc (.cells #[(.int .i64 u.kind), (.slice A9 u.args.length k9)] 34)).heap.size := by simp [World.setCell]
         have hEC := ec_end HW.out HWS.out HO3.out n13 hBz HWI7.out HWS7.out (Nat.le_of_lt hTB) hTz far sF ⟨rfl, rfl, rfl⟩ HN3.out HR3.out
         have hBU := box_u (BK := w3.heap.size + 1) (fun k hk => (HW.out.sep k hk).1) (fun g hg => (HO3.out g hg).1) n13 hBz.size HWI7.out HWS7.out (Nat.le_of_lt hTB) hTz (by omega) (by omega) (by omega) far sF (heap_alloc_new w7 _) HT7.out
         have hBT := box_t hWl HWI.out n13 hBz HWS7.out hTB hTz far sF ((HZ3.out.1.block w3.heap.size (by omega)).trans hd4) HT3'.out
         exact ⟨w7.heap.size, AV7, rfl, rfl, hEC, hBU, hBT⟩)
      | error x =>
        obtain ⟨no, qs⟩ := x
        go_region_held3 (fun w' => w'.cell? ⟨w.heap.size, 0, none⟩ = some (.string ⟨n.op.toArray⟩) ∧ w'.cell? ⟨w.heap.size, 1, none⟩ = some (.int .i64 n.int) ∧ w'.cell? ⟨w.heap.size, 2, none⟩ = some (.string ⟨n.text.toArray⟩) ∧ w'.cell? ⟨w.heap.size, 3, none⟩ = some (.int .i64 n.ty.kind) ∧ w'.cell? ⟨w.heap.size, 4, none⟩ = some (.slice A n.ty.args.length c) ∧ w'.cell? ⟨w.heap.size, 5, none⟩ = some (.slice (some ⟨kb, ko, none⟩) n.kids.length k) ∧ w'.cell? ⟨kb, ko + 8, none⟩ = some (.string ⟨kn.text.toArray⟩) ∧ w'.cell? ⟨w3.heap.size, 0, none⟩ = some (.int .i64 t.kind) ∧ w'.cell? ⟨w3.heap.size, 1, none⟩ = some (.slice (some ⟨ab, ao, none⟩) t.args.length k6) ∧ w'.cell? ⟨ab, ao, none⟩ = some (.int .i64 a.kind) ∧ w'.cell? ⟨ab, ao + 1, none⟩ = some (.slice Aa a.args.length ka))
        (((refine ⟨?_, ?_, ?_, ?_, ?_, ?_, ?_, ?_, ?_, ?_, ?_⟩ <;> (repeat' (first | with_reducible assumption | with_reducible refine zX ?_ | with_reducible refine cell_alloc2 ?_ ?_ | with_reducible refine cell_set_some ?_ ?_ | omega | (show _ < w4.heap.size; omega) | (simp only [World.size_alloc]; omega) | (dsimp only; omega))))))
         (first
         | (go_at_call 94; (with_reducible refine HC1.out.mono ?_); rintro e w7 ⟨hno, AV7, rfl, hWI7, hWS7⟩; have HNO := Lib.hid hno; clear hno; have HWI7 := Lib.hid hWI7; have HWS7 := Lib.hid hWS7; have hF := HFAR.out _ w7 AV7 HZ1.out.1 hWS7; have tb := (hWS7.block (w3.heap.size + 1) (by rw [HZ1.out.2.2]; omega) (by omega) (fun e => by have := (HO3.out _ e.symm).1; omega)).trans HZ1.out.2.1; have tb0 := zD (i := 0) tb rfl; have tb1 := zD (i := 1) tb rfl; have tf0 := zI (i := 0) tb; have tf1 := zI (i := 1) tb; have HTB1 := Lib.hid tb; clear tb; clear hWI7 hWS7; have m0 : w7.cell? ⟨w.heap.size, 0, none⟩ = some (.string ⟨n.op.toArray⟩) := (World.cell?_of_block (hF.1 w.heap.size (by omega) (by omega) HNA.out)).trans n0; have m1 : w7.cell? ⟨w.heap.size, 1, none⟩ = some (.int .i64 n.int) := (World.cell?_of_block (hF.1 w.heap.size (by omega) (by omega) HNA.out)).trans n1; have m2 : w7.cell? ⟨w.heap.size, 2, none⟩ = some (.string ⟨n.text.toArray⟩) := (World.cell?_of_block (hF.1 w.heap.size (by omega) (by omega) HNA.out)).trans n2; have m3 : w7.cell? ⟨w.heap.size, 3, none⟩ = some (.int .i64 n.ty.kind) := (World.cell?_of_block (hF.1 w.heap.size (by omega) (by omega) HNA.out)).trans n3; have m4 : w7.cell? ⟨w.heap.size, 4, none⟩ = some (.slice A n.ty.args.length c) := (World.cell?_of_block (hF.1 w.heap.size (by omega) (by omega) HNA.out)).trans n4; have m5 : w7.cell? ⟨w.heap.size, 5, none⟩ = some (.slice (some ⟨kb, ko, none⟩) n.kids.length k) := (World.cell?_of_block (hF.1 w.heap.size (by omega) (by omega) HNA.out)).trans n5; have mk : w7.cell? ⟨kb, ko + 8, none⟩ = some (.string ⟨kn.text.toArray⟩) := (World.cell?_of_block (hF.1 kb (by omega) hkbW HKA.out)).trans k2; have md0 : w7.cell? ⟨w3.heap.size, 0, none⟩ = some (.int .i64 t.kind) := (World.cell?_of_block (hF.1 w3.heap.size (by omega) (by omega) HDA.out)).trans d0; have md1 : w7.cell? ⟨w3.heap.size, 1, none⟩ = some (.slice (some ⟨ab, ao, none⟩) t.args.length k6) := (World.cell?_of_block (hF.1 w3.heap.size (by omega) (by omega) HDA.out)).trans d1; have ma0 : w7.cell? ⟨ab, ao, none⟩ = some (.int .i64 a.kind) := (World.cell?_of_block (hF.1 ab (by omega) habW1 HAA.out)).trans ha0; have ma1 : w7.cell? ⟨ab, ao + 1, none⟩ = some (.slice Aa a.args.length ka) := (World.cell?_of_block (hF.1 ab (by omega) habW1 HAA.out)).trans ha1; have hs7 := hF.2; clear hF)
         | (go_at_call 94; (with_reducible refine HC2.out.mono ?_); rintro e w7 ⟨hno, AV7, rfl, hWI7, hWS7⟩; have HNO := Lib.hid hno; clear hno; have HWI7 := Lib.hid hWI7; have HWS7 := Lib.hid hWS7; have hF := HFAR.out _ w7 AV7 HZ2.out.1 hWS7; have tb := (hWS7.block (w3.heap.size + 2) (by rw [HZ2.out.2.2]; omega) (by omega) (fun e => by have := (HO3.out _ e.symm).1; omega)).trans HZ2.out.2.1; have tb0 := zD (i := 0) tb rfl; have tb1 := zD (i := 1) tb rfl; have tf0 := zI (i := 0) tb; have tf1 := zI (i := 1) tb; have HTB2 := Lib.hid tb; clear tb; clear hWI7 hWS7; have m0 : w7.cell? ⟨w.heap.size, 0, none⟩ = some (.string ⟨n.op.toArray⟩) := (World.cell?_of_block (hF.1 w.heap.size (by omega) (by omega) HNA.out)).trans n0; have m1 : w7.cell? ⟨w.heap.size, 1, none⟩ = some (.int .i64 n.int) := (World.cell?_of_block (hF.1 w.heap.size (by omega) (by omega) HNA.out)).trans n1; have m2 : w7.cell? ⟨w.heap.size, 2, none⟩ = some (.string ⟨n.text.toArray⟩) := (World.cell?_of_block (hF.1 w.heap.size (by omega) (by omega) HNA.out)).trans n2; have m3 : w7.cell? ⟨w.heap.size, 3, none⟩ = some (.int .i64 n.ty.kind) := (World.cell?_of_block (hF.1 w.heap.size (by omega) (by omega) HNA.out)).trans n3; have m4 : w7.cell? ⟨w.heap.size, 4, none⟩ = some (.slice A n.ty.args.length c) := (World.cell?_of_block (hF.1 w.heap.size (by omega) (by omega) HNA.out)).trans n4; have m5 : w7.cell? ⟨w.heap.size, 5, none⟩ = some (.slice (some ⟨kb, ko, none⟩) n.kids.length k) := (World.cell?_of_block (hF.1 w.heap.size (by omega) (by omega) HNA.out)).trans n5; have mk : w7.cell? ⟨kb, ko + 8, none⟩ = some (.string ⟨kn.text.toArray⟩) := (World.cell?_of_block (hF.1 kb (by omega) hkbW HKA.out)).trans k2; have md0 : w7.cell? ⟨w3.heap.size, 0, none⟩ = some (.int .i64 t.kind) := (World.cell?_of_block (hF.1 w3.heap.size (by omega) (by omega) HDA.out)).trans d0; have md1 : w7.cell? ⟨w3.heap.size, 1, none⟩ = some (.slice (some ⟨ab, ao, none⟩) t.args.length k6) := (World.cell?_of_block (hF.1 w3.heap.size (by omega) (by omega) HDA.out)).trans d1; have ma0 : w7.cell? ⟨ab, ao, none⟩ = some (.int .i64 a.kind) := (World.cell?_of_block (hF.1 ab (by omega) habW1 HAA.out)).trans ha0; have ma1 : w7.cell? ⟨ab, ao + 1, none⟩ = some (.slice Aa a.args.length ka) := (World.cell?_of_block (hF.1 ab (by omega) habW1 HAA.out)).trans ha1; have hs7 := hF.2; clear hF)
         | (go_at_call 94; (with_reducible refine HC3.out.mono ?_); rintro e w7 ⟨hno, AV7, rfl, hWI7, hWS7⟩; have HNO := Lib.hid hno; clear hno; have HWI7 := Lib.hid hWI7; have HWS7 := Lib.hid hWS7; have hF := HFAR.out _ w7 AV7 HZ3.out.1 hWS7; have HTB3 := Lib.hid True.intro; clear hWI7 hWS7; have m0 : w7.cell? ⟨w.heap.size, 0, none⟩ = some (.string ⟨n.op.toArray⟩) := (World.cell?_of_block (hF.1 w.heap.size (by omega) (by omega) HNA.out)).trans n0; have m1 : w7.cell? ⟨w.heap.size, 1, none⟩ = some (.int .i64 n.int) := (World.cell?_of_block (hF.1 w.heap.size (by omega) (by omega) HNA.out)).trans n1; have m2 : w7.cell? ⟨w.heap.size, 2, none⟩ = some (.string ⟨n.text.toArray⟩) := (World.cell?_of_block (hF.1 w.heap.size (by omega) (by omega) HNA.out)).trans n2; have m3 : w7.cell? ⟨w.heap.size, 3, none⟩ = some (.int .i64 n.ty.kind) := (World.cell?_of_block (hF.1 w.heap.size (by omega) (by omega) HNA.out)).trans n3; have m4 : w7.cell? ⟨w.heap.size, 4, none⟩ = some (.slice A n.ty.args.length c) := (World.cell?_of_block (hF.1 w.heap.size (by omega) (by omega) HNA.out)).trans n4; have m5 : w7.cell? ⟨w.heap.size, 5, none⟩ = some (.slice (some ⟨kb, ko, none⟩) n.kids.length k) := (World.cell?_of_block (hF.1 w.heap.size (by omega) (by omega) HNA.out)).trans n5; have mk : w7.cell? ⟨kb, ko + 8, none⟩ = some (.string ⟨kn.text.toArray⟩) := (World.cell?_of_block (hF.1 kb (by omega) hkbW HKA.out)).trans k2; have md0 : w7.cell? ⟨w3.heap.size, 0, none⟩ = some (.int .i64 t.kind) := (World.cell?_of_block (hF.1 w3.heap.size (by omega) (by omega) HDA.out)).trans d0; have md1 : w7.cell? ⟨w3.heap.size, 1, none⟩ = some (.slice (some ⟨ab, ao, none⟩) t.args.length k6) := (World.cell?_of_block (hF.1 w3.heap.size (by omega) (by omega) HDA.out)).trans d1; have ma0 : w7.cell? ⟨ab, ao, none⟩ = some (.int .i64 a.kind) := (World.cell?_of_block (hF.1 ab (by omega) habW1 HAA.out)).trans ha0; have ma1 : w7.cell? ⟨ab, ao + 1, none⟩ = some (.slice Aa a.args.length ka) := (World.cell?_of_block (hF.1 ab (by omega) habW1 HAA.out)).trans ha1; have hs7 := hF.2; clear hF)
         | fail)
        all_goals go_wp2_with (fail)
        all_goals go_meet
        all_goals first
         | (
         have hmark := HTB1.out
         have hzs := HZ1.out.2.2
         have hBz := hb4.trans (HZ1.out.1.mono (by omega))
         have hs7z := HWS7.out.size
         have hTz : w3.heap.size + 1 < (((w4.alloc (.cells #[.int .i64 0, .slice none 0 0] 34)).alloc (.cells #[.string ⟨kn.text.toArray⟩, .int .i64 a.kind, .slice Aa a.args.length ka] 160)).drew).heap.size ∨ w7.heap.size ≤ w3.heap.size + 1 := by omega
         have hTB : w3.heap.size < w3.heap.size + 1 := by omega
         have far : ∀ b, b < w7.heap.size → b ≠ w3.heap.size + 1 → ((w7.setCell ⟨w3.heap.size + 1, 0, none⟩ (.int .i64 0)).setCell ⟨w3.heap.size + 1, 1, none⟩ (.slice none 0 0)).heap[b]? = w7.heap[b]? := fun b hb hne => by
          rw [Below.heap_setCell _ _ _ _ (by show b ≠ w3.heap.size + 1; exact hne), Below.heap_setCell _ _ _ _ (by show b ≠ w3.heap.size + 1; exact hne)]
         have sF : w7.heap.size ≤ ((w7.setCell ⟨w3.heap.size + 1, 0, none⟩ (.int .i64 0)).setCell ⟨w3.heap.size + 1, 1, none⟩ (.slice none 0 0)).heap.size := by simp [World.setCell]
         have hEC := ec_end HW.out HWS.out HO3.out n13 hBz HWI7.out HWS7.out (Nat.le_of_lt hTB) hTz far sF ⟨rfl, rfl, rfl⟩ HN3.out HR3.out
         exact ⟨w3.heap.size + 1, AV7, rfl, HNO.out, rfl, hEC⟩)
         | (
         have hmark := HTB2.out
         have hzs := HZ2.out.2.2
         have hBz := hb4.trans (HZ2.out.1.mono (by omega))
         have hs7z := HWS7.out.size
         have hTz : w3.heap.size + 2 < (((w4.alloc (.cells #[.string ⟨kn.text.toArray⟩, .int .i64 a.kind, .slice Aa a.args.length ka] 160)).alloc (.cells #[.int .i64 0, .slice none 0 0] 34)).drew).heap.size ∨ w7.heap.size ≤ w3.heap.size + 2 := by omega
         have hTB : w3.heap.size < w3.heap.size + 2 := by omega
         have far : ∀ b, b < w7.heap.size → b ≠ w3.heap.size + 2 → ((w7.setCell ⟨w3.heap.size + 2, 0, none⟩ (.int .i64 0)).setCell ⟨w3.heap.size + 2, 1, none⟩ (.slice none 0 0)).heap[b]? = w7.heap[b]? := fun b hb hne => by
          rw [Below.heap_setCell _ _ _ _ (by show b ≠ w3.heap.size + 2; exact hne), Below.heap_setCell _ _ _ _ (by show b ≠ w3.heap.size + 2; exact hne)]
         have sF : w7.heap.size ≤ ((w7.setCell ⟨w3.heap.size + 2, 0, none⟩ (.int .i64 0)).setCell ⟨w3.heap.size + 2, 1, none⟩ (.slice none 0 0)).heap.size := by simp [World.setCell]
         have hEC := ec_end HW.out HWS.out HO3.out n13 hBz HWI7.out HWS7.out (Nat.le_of_lt hTB) hTz far sF ⟨rfl, rfl, rfl⟩ HN3.out HR3.out
         exact ⟨w3.heap.size + 2, AV7, rfl, HNO.out, rfl, hEC⟩)
         | (
         have hmark := HTB3.out
         have hzs := HZ3.out.2
         have hBz := hb4.trans (HZ3.out.1.mono (by omega))
         have hs7z := HWS7.out.size
         have hTz : w7.heap.size < ((w4.alloc (.cells #[.string ⟨kn.text.toArray⟩, .int .i64 a.kind, .slice Aa a.args.length ka] 160)).drew).heap.size ∨ w7.heap.size ≤ w7.heap.size := by omega
         have hTB : w3.heap.size < w7.heap.size := by omega
         have far : ∀ b, b < w7.heap.size → b ≠ w7.heap.size → (w7.alloc (.cells #[(.int .i64 0), (.slice none 0 0)] 34)).heap[b]? = w7.heap[b]? := fun b hb hne => by
          exact Below.heap_alloc w7 _ b hb
         have sF : w7.heap.size ≤ (w7.alloc (.cells #[(.int .i64 0), (.slice none 0 0)] 34)).heap.size := by simp [World.setCell]
         have hEC := ec_end HW.out HWS.out HO3.out n13 hBz HWI7.out HWS7.out (Nat.le_of_lt hTB) hTz far sF ⟨rfl, rfl, rfl⟩ HN3.out HR3.out
         exact ⟨w7.heap.size, AV7, rfl, HNO.out, rfl, hEC⟩)
     have HEA : Hid (t.args.headD ty0 = a) := Lib.hid (by rw [HHA.out]; rfl)
     have HEV : Hid (eachR isMap ps (.ok t) r2 = eachE isMap ps t r) := Lib.hid (by
      show (if t.kind = 7 then _ else _) = _
      rw [if_pos H7.out, HEA.out, ← HR2.out])
     clear k2 ha0 ha1 hn4 hr4 n0 n1 n2 n3 n4 n5 d0 d1 hb4 hd4 hs4 dk4
     cases r with
     | error x =>
       obtain ⟨no, qs⟩ := x
       obtain ⟨TB, AV7, rfl, hno, rfl, hEC⟩ := hcut
       have HEC := Lib.hid hEC
       have hno' : (no == 0) = false := by simp [hno]
       have x0 := zD (i := 0) hEC.rbox rfl
       have x1 := zD (i := 1) hEC.rbox rfl
       have xf0 := zI (i := 0) hEC.rbox
       have xf1 := zI (i := 1) hEC.rbox
       clear hEC
       go_wp2_with (fail)
       refine bodyPost_ret (v := .tuple #[.agg #[.int .i64 0, .slice none 0 0], .int .i64 no]) (by simp [results, Tryz.results59, go_sem, x0, x1]) rfl ?_
       rw [HEV.out]
       refine kid_err HW.out HEC.out.walk HEC.out.step hno HEC.out.own (fun b hb hn1 => ?_) (by simp [World.setCell]) ⟨rfl, rfl, rfl⟩
       rw [Below.heap_setCell _ _ _ _ (by show b ≠ w.heap.size + 1; exact hn1), Below.heap_setCell _ _ _ _ (by show b ≠ w.heap.size + 1; exact hn1)]
     | ok u =>
       obtain ⟨TB, AV7, rfl, rfl, hEC, ⟨A9, k9, d9, hbu, hneR, hTu⟩, ⟨A8, k8, d8, hbt, _, hTt⟩⟩ := hcut
       have HEC := Lib.hid hEC
       have x0 := zD (i := 0) hEC.rbox rfl
       have x1 := zD (i := 1) hEC.rbox rfl
       have xf0 := zI (i := 0) hEC.rbox
       have xf1 := zI (i := 1) hEC.rbox
       have n0 : wc.cell? ⟨w.heap.size, 0, none⟩ = some (.string ⟨n.op.toArray⟩) := zD (i := 0) hEC.nbox rfl
       have u0 := zD (i := 0) hbu rfl
       have u1 := zD (i := 1) hbu rfl
       have t0 := zD (i := 0) hbt rfl
       have t1 := zD (i := 1) hbt rfl
       have HTu := Lib.hid hTu
       have HTt := Lib.hid hTt
       have hRl := zC hEC.rbox
       have HRB := Lib.hid hEC.rbox
       have HSB := Lib.hid (heap_alloc_new wc (.cells #[.int .i64 u.kind, .slice A9 u.args.length k9] 34))
       clear hEC hbu hTu hbt hTt
       cases isMap with
       | true =>
         go_wp2_with (first
          | (go_at_call 96; refine (ckOf_any _ _ _ _ _).mono ?_; rintro e w5 ⟨rfl, hb5⟩)
          | fail)
         have hb5' : Below wc.heap.size wc w5 := ((Below.refl _ wc).alloc (Nat.le_refl _) _).trans (hb5.mono (by simp))
         have hs5 := hb5'.size
         have hs5b := hb5.size
         simp only [World.size_alloc] at hs5b
         have hsb5 := (hb5.block wc.heap.size (by simp)).trans HSB.out
         have hT7 : TyAt w5 (fun k => P k ∨ (w.heap.size + 2 ≤ k ∧ k < w5.heap.size ∧ some k ≠ AV7.ownBlock)) (d9 + 1) (.agg #[.int .i64 7, .slice (some ⟨wc.heap.size, 0, none⟩) 1 1]) (.mk 7 [u]) :=
          ⟨some ⟨wc.heap.size, 0, none⟩, 1, rfl, Nat.le_refl _, fun _ => ⟨wc.heap.size, 0, rfl, .inr ⟨by omega, by omega, fun e => by have := HEC.out.walk.ownlt _ e.symm; omega⟩, fun j x hx => by
           cases j with
           | zero =>
             obtain rfl : u = x := Option.some.inj hx
             exact ⟨_, _, zD (i := 0) hsb5 rfl, zD (i := 1) hsb5 rfl, (HTu.out.below hb5').move fun b hb _ => ⟨hb.imp id fun ⟨h1, h2, h3⟩ => ⟨h1, by omega, h3⟩, fun _ => rfl⟩⟩
           | succ j => exact absurd hx (by simp [Ty.args])⟩⟩
         refine (ifRight_any (d9 + 1) _ _ _ w5 hT7 (HEC.out.walk.low_ hb5').glob).mono ?_
         rintro e w6 ⟨hIR, hb6⟩
         have hb6' := hb5'.trans (hb6.mono hs5)
         have HB6 := Lib.hid hb6'
         have hs6 := hb6.size
         have hr6 := (hb6'.block (w.heap.size + 1) hRl).trans HRB.out
         have y0 := zD (i := 0) hr6 rfl
         have y1 := zD (i := 1) hr6 rfl
         have yf0 := zI (i := 0) hr6
         have yf1 := zI (i := 1) hr6
         have HW6 := Lib.hid (HEC.out.walk.low_ hb6')
         have HST6 := Lib.hid (HEC.out.step.trans (WkS.of_below (W := W) (AV := AV7) hb6'))
         clear hr6 hT7 hb5 hb5' hsb5 hb6' x0 x1 xf0 xf1
         unfold IrOut at hIR
         cases hM : (Knd.zH 6 (.mk 7 [u])).isSome with
         | false =>
           rw [hM, if_neg (by decide)] at hIR
           subst hIR
           have HMM := Lib.hid hM
           clear hM
           go_wp2_with (fail)
           refine bodyPost_ret (v := .tuple #[.agg #[.int .i64 0, .slice none 0 0], .int .i64 50]) (by simp [results, Tryz.results59, go_sem, y0, y1]) rfl ?_
           rw [show eachR true ps (.ok t) r2 = .error (50, ps) by rw [HEV.out]; simp [eachE, HMM.out]]
           refine kid_err HW.out HW6.out HST6.out (by decide) HEC.out.own (fun b hb hn1 => ?_) (by simp [World.setCell]) ⟨rfl, rfl, rfl⟩
           rw [Below.heap_setCell _ _ _ _ (by show b ≠ w.heap.size + 1; exact hn1), Below.heap_setCell _ _ _ _ (by show b ≠ w.heap.size + 1; exact hn1)]
         | true =>
           rw [hM, if_pos rfl] at hIR
           obtain ⟨v, rfl, hTv⟩ := hIR
           obtain ⟨Av, kv, rfl⟩ := hTv.form
           have HTv := Lib.hid hTv
           have HMM := Lib.hid hM
           clear hM hTv
           go_wp2_with (fail)
           refine bodyPost_ret (v := .tuple #[.agg #[.int .i64 (Ty.mk 7 [u]).kind, .slice Av (Ty.mk 7 [u]).args.length kv], .int .i64 0]) (by simp [results, Tryz.results59, go_sem, y0, y1]) rfl ?_
           rw [show eachR true ps (.ok t) r2 = .ok (.mk 7 [u]) by rw [HEV.out]; simp [eachE, HMM.out]]
           refine ret_ok HW.out HW6.out HST6.out HEC.out.own (fun b hb hn1 => ?_) (by simp [World.setCell]) ⟨rfl, rfl, rfl⟩ (HTv.out.move fun b hb hl => ⟨hb.imp id fun ⟨h1, h2, h3⟩ => ⟨h1, hl, h3⟩, fun _ => rfl⟩)
           rw [Below.heap_setCell _ _ _ _ (by show b ≠ w.heap.size + 1; exact hn1), Below.heap_setCell _ _ _ _ (by show b ≠ w.heap.size + 1; exact hn1)]
       | false =>
         by_cases hu1 : u.kind = 1
         · have hu1' : (u.kind != 1) = false := by simp [hu1]
           have HU1 := Lib.hid hu1
           clear hu1
           go_wp2_with (fail)
           refine bodyPost_ret (v := .tuple #[.agg #[.int .i64 t.kind, .slice A8 t.args.length k8], .int .i64 0]) (by simp [results, Tryz.results59, go_sem, x0, x1]) rfl ?_
           rw [show eachR false ps (.ok t) r2 = .ok t by rw [HEV.out]; simp [eachE, HU1.out]]
           refine ret_ok HW.out HEC.out.walk HEC.out.step HEC.out.own (fun b hb hn1 => ?_) (by simp [World.setCell]) ⟨rfl, rfl, rfl⟩ HTt.out
           rw [Below.heap_setCell _ _ _ _ (by show b ≠ w.heap.size + 1; exact hn1), Below.heap_setCell _ _ _ _ (by show b ≠ w.heap.size + 1; exact hn1)]
         · have hu1' : (u.kind != 1) = true := by simp [hu1]
           have HU1 := Lib.hid hu1
           clear hu1
           go_wp2_with (fail)
           refine bodyPost_ret (v := .tuple #[.agg #[.int .i64 0, .slice none 0 0], .int .i64 50]) (by simp [results, Tryz.results59, go_sem, x0, x1]) rfl ?_
           rw [show eachR false ps (.ok t) r2 = .error (50, ps) by rw [HEV.out]; simp [eachE, HU1.out]]
           refine kid_err HW.out HEC.out.walk HEC.out.step (by decide) HEC.out.own (fun b hb hn1 => ?_) (by simp [World.setCell]) ⟨rfl, rfl, rfl⟩
           rw [Below.heap_setCell _ _ _ _ (by show b ≠ w.heap.size + 1; exact hn1), Below.heap_setCell _ _ _ _ (by show b ≠ w.heap.size + 1; exact hn1)]
   · have h7' : (t.kind != 7) = true := by simp [h7]
     have hr4 := (Below.heap_alloc w3 (.cells #[.int .i64 t.kind, .slice A6 t.args.length k6] 34) _ (zC hr3)).trans hr3
     have x0 := zD (i := 0) hr4 rfl
     have x1 := zD (i := 1) hr4 rfl
     have xf0 := zI (i := 0) hr4
     have xf1 := zI (i := 1) hr4
     have hd4 := heap_alloc_new w3 (.cells #[.int .i64 t.kind, .slice A6 t.args.length k6] 34)
     have d0 := zD (i := 0) hd4 rfl
     clear hT3 hWI hWS hr3 hn3 hr4 hd4
     go_wp2_with (fail)
     refine bodyPost_ret (v := .tuple #[.agg #[.int .i64 0, .slice none 0 0], .int .i64 50]) (by simp [results, Tryz.results59, go_sem, x0, x1]) rfl ?_
     rw [show eachR isMap ps (.ok t) r2 = .error (50, ps) by unfold eachR; simp [h7]]
     refine kid_err HW.out HWI.out HWS.out (by decide) (fun g hg => by have := (HO3.out g hg).2; omega) (fun b hb hn1 => ?_) (by simp [World.setCell]) ⟨rfl, rfl, rfl⟩
     rw [Below.heap_setCell _ _ _ _ (by show b ≠ w.heap.size + 1; exact hn1), Below.heap_setCell _ _ _ _ (by show b ≠ w.heap.size + 1; exact hn1)]
     exact Below.heap_alloc w3 _ b hb
