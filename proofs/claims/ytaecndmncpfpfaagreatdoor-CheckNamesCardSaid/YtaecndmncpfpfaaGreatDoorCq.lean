import Derived.Test.YtaecndmncpfpfaaGreatDoorCp
set_option linter.unusedVariables false
set_option linter.unusedSimpArgs false
namespace Go.Proofs.YtaecndmncpfpfaaGreatDoor
open Go.RowKit
def foldE (ps : List Int) (td : Ty) : Except (Int × List Int) Ty → Except (Int × List Int) Ty
 | .error x => .error x
 | .ok u => if Knd.sameT u td = true then .ok td else .error (50, ps)
def foldR (ps : List Int) (rk : Except (Int × List Int) (List Ty)) (r2 : Ty → Ty → Except (Int × List Int) Ty) : Except (Int × List Int) Ty :=
 match rk with
 | .error x => .error x
 | .ok ts => if (ts.headD ty0).kind = 7 then foldE ps (ts.getD 1 ty0) (r2 (ts.getD 1 ty0) ((ts.headD ty0).args.headD ty0)) else .error (50, ps)
def TwoT (wr : World) (x y : Value × Value) (s5 s6 : Value) (wx : World) : Prop :=
 ∃ p q, s5 = .pointer (some ⟨p, 0, none⟩) ∧ s6 = .pointer (some ⟨q, 0, none⟩) ∧ p ≠ q ∧ wr.heap.size ≤ p ∧ wr.heap.size ≤ q ∧
  wx.heap[p]? = some (.cells #[x.1, x.2] 34 (0, 0)) ∧ wx.heap[q]? = some (.cells #[y.1, y.2] 34 (0, 0)) ∧ Below wr.heap.size wr wx
theorem twoT_ab (w : World) (x y : Value × Value) : TwoT w x y (.pointer (some ⟨w.heap.size, 0, none⟩)) (.pointer (some ⟨w.heap.size + 1, 0, none⟩)) ((w.alloc (.cells #[x.1, x.2] 34)).alloc (.cells #[y.1, y.2] 34)).drew :=
 ⟨_, _, rfl, rfl, by omega, by omega, by omega, (Below.heap_alloc _ _ _ (by simp)).trans (heap_alloc_new w _), (by simpa using heap_alloc_new (w.alloc (.cells #[x.1, x.2] 34)) (.cells #[y.1, y.2] 34) : ((w.alloc (.cells #[x.1, x.2] 34)).alloc (.cells #[y.1, y.2] 34)).heap[w.heap.size + 1]? = _), (((Below.refl _ w).alloc (Nat.le_refl _) _).alloc (by simp) _).drew⟩
theorem twoT_ba (w : World) (x y : Value × Value) : TwoT w x y (.pointer (some ⟨w.heap.size + 1, 0, none⟩)) (.pointer (some ⟨w.heap.size, 0, none⟩)) ((w.alloc (.cells #[y.1, y.2] 34)).alloc (.cells #[x.1, x.2] 34)).drew :=
 ⟨_, _, rfl, rfl, by omega, by omega, by omega, (by simpa using heap_alloc_new (w.alloc (.cells #[y.1, y.2] 34)) (.cells #[x.1, x.2] 34) : ((w.alloc (.cells #[y.1, y.2] 34)).alloc (.cells #[x.1, x.2] 34)).heap[w.heap.size + 1]? = _), (Below.heap_alloc _ _ _ (by simp)).trans (heap_alloc_new w _), (((Below.refl _ w).alloc (Nat.le_refl _) _).alloc (by simp) _).drew⟩
theorem kids_two {f : Nat → Except (Int × List Int) Ty} {ts : List Ty} (h : yC f 2 0 = .ok ts) : ∃ t d, ts = [t, d] ∧ f 0 = .ok t ∧ f 1 = .ok d := by
 unfold yC at h
 cases h0 : f 0 with
 | error x => rw [h0] at h; cases h
 | ok t =>
   rw [h0] at h
   unfold yC at h
   simp only [Nat.zero_add] at h
   cases h1 : f 1 with
   | error x => rw [h1] at h; cases h
   | ok d =>
     rw [h1] at h
     unfold yC at h
     injection h with h
     exact ⟨t, d, h.symm, rfl, rfl⟩
theorem bty_two {w : World} {Q : Nat → Prop} {d blk c c' : Nat} {x y : List UInt8 × Ty} {A A' : Option Addr} {T : TypeId} (hb : w.heap[blk]? = some (.cells #[.string ⟨x.1.toArray⟩, .int .i64 x.2.kind, .slice A x.2.args.length c, .string ⟨y.1.toArray⟩, .int .i64 y.2.kind, .slice A' y.2.args.length c'] T (0, 0))) (hQ : Q blk) (hT : TyAt w Q d (.agg #[.int .i64 x.2.kind, .slice A x.2.args.length c]) x.2) (hT' : TyAt w Q d (.agg #[.int .i64 y.2.kind, .slice A' y.2.args.length c']) y.2) : BTy w Q d (some ⟨blk, 0, none⟩) [x, y] := fun _ =>
 ⟨blk, 0, rfl, hQ, fun j z hz => by
  match j, hz with
  | 0, hz =>
    simp at hz
    subst hz
    exact ⟨_, _, zD (i := 0) hb rfl, zD (i := 1) hb rfl, zD (i := 2) hb rfl, hT⟩
  | 1, hz =>
    simp at hz
    subst hz
    exact ⟨_, _, zD (i := 3) hb rfl, zD (i := 4) hb rfl, zD (i := 5) hb rfl, hT'⟩
  | j + 2, hz => simp at hz⟩
theorem box_q {w w3 wz w7 wF : World} {W TB B d3 k6 : Nat} {A6 : Option Addr} {P : Nat → Prop} {it : Ty} {sides : List Ty} {names : List (List UInt8 × Ty)} {NA : Option Addr} {nk : Nat} {AV3 AV7 : Value} {ps : List Int} {t : Ty} (hW : W < w.heap.size) (h3 : WkI w3 W P it sides names NA nk AV3 ps) (n13 : w.heap.size + 2 ≤ w3.heap.size) (hz : Below w3.heap.size w3 wz) (hs7 : WkS wz w7 W AV3 AV7) (hTB : w3.heap.size ≤ TB) (hTz : TB < wz.heap.size ∨ w7.heap.size ≤ TB)
    (far : ∀ b, b < w7.heap.size → b ≠ TB → wF.heap[b]? = w7.heap[b]?) (sF : w7.heap.size ≤ wF.heap.size) (hB : B < w3.heap.size) (hBW : B ≠ W) (hBR : B ≠ w.heap.size + 1) (hBA : some B ≠ AV3.ownBlock) (hD : w3.heap[B]? = some (.cells #[.int .i64 t.kind, .slice A6 t.args.length k6] 34 (0, 0)))
    (hT : TyAt w3 (fun k => P k ∨ (w.heap.size + 2 ≤ k ∧ k < w3.heap.size ∧ some k ≠ AV3.ownBlock)) d3 (.agg #[.int .i64 t.kind, .slice A6 t.args.length k6]) t) : BoxT w wF P AV7 B t := by
 have hs7z := hs7.size
 have hsz := hz.size
 have hne : ∀ k, k < wz.heap.size → some k ≠ AV3.ownBlock → some k ≠ AV7.ownBlock := fun k hk hA e => by
  rcases hs7.own with e3 | e3
  · exact hA (e.trans e3)
  · have := e3 k e.symm
    omega
 have low : ∀ k, k < w3.heap.size → k ≠ W → some k ≠ AV3.ownBlock → wF.heap[k]? = w3.heap[k]? := fun k hk hW hA => (far k (by omega) (by omega)).trans ((hs7.block k (by omega) hW hA).trans (hz.block k hk))
 refine ⟨A6, k6, d3, (low B hB hBW hBA).trans hD, hBR, hT.move fun b hb hl => ?_⟩
 rcases hb with hb | ⟨k1, k2, k3⟩
 · exact ⟨.inl hb, fun _ => World.cell?_of_block (low b hl (h3.sep b hb).2.1 (h3.sep b hb).2.2)⟩
 · exact ⟨.inr ⟨k1, by omega, hne b (by omega) k3⟩, fun _ => World.cell?_of_block (low b hl (by omega) k3)⟩
set_option maxRecDepth 100000 in
set_option maxHeartbeats 4000000 in
theorem fold_any (W : Nat) (P S : Nat → Prop) (it : Ty) (sides : List Ty) (names : List (List UInt8 × Ty)) (NA : Option Addr) (nk : Nat) (AV : Value) (ps : List Int) (nv : Value) (n kn km : Nd) (dn : Nat) (f : Nat → Except (Int × List Int) Ty) (r2 : Ty → Ty → Except (Int × List Int) Ty) (w : World)
    (hW : WkI w W P it sides names NA nk AV ps) (hnl : names.length ≤ 500) (hnil : names.length = 0 → NA = none ∧ nk = 0) (hk1 : n.kids.length ≤ 64) (hkn : n.kids[2]? = some kn) (hkm : n.kids[3]? = some km) (hr1 : ∀ t, f 0 = .ok t → t.kind = 7 → ∃ a, t.args = [a]) (hn : NdAt w S (dn + 1) nv n) (hS : ∀ k, S k → Fr w.heap.size W AV k)
    (hK1 : ∀ (i : Nat) (AV' : Value) (w1 : World), i < 2 → WkI w1 W P it sides names NA nk AV' ps → NdAt w1 S (dn + 1) nv n → (∀ k, S k → Fr w1.heap.size W AV' k) →
      Calls Tryz.prog 93 #[.pointer (some ⟨W, 0, none⟩), nv, .int .i64 i] w1 fun e w2 => InOut w1 w2 W P it sides names NA nk AV' ps e (f i))
    (hK2 : ∀ (P' : Nat → Prop) (t d : Ty) (AV' : Value) (g cap : Nat) (w1 : World), f 0 = .ok t → f 1 = .ok d → t.kind = 7 → WkI w1 W P' it sides (names ++ [(kn.text, d), (km.text, t.args.headD ty0)]) (some ⟨g, 0, none⟩) cap AV' ps → NdAt w1 S (dn + 1) nv n → (∀ k, S k → Fr w1.heap.size W AV' k) → (∀ k, P k → P' k) →
      Calls Tryz.prog 93 #[.pointer (some ⟨W, 0, none⟩), nv, .int .i64 ((n.kids.length : Int) - 1)] w1 fun e w2 => InOut w1 w2 W P' it sides (names ++ [(kn.text, d), (km.text, t.args.headD ty0)]) (some ⟨g, 0, none⟩) cap AV' ps e (r2 d (t.args.headD ty0))) :
    Calls Tryz.prog 60 #[.pointer (some ⟨W, 0, none⟩), nv] w fun e w' => InOut w w' W P it sides names NA nk AV ps e (foldR ps (yC f 2 0) r2) := by
 have HN := Lib.hid hn
 obtain ⟨A, c, K, k, rfl, _, hlk, hkc⟩ := hn
 have hpl1 : 3 < n.kids.length := (List.getElem?_eq_some_iff.1 hkm).1
 have hpl : 0 < n.kids.length := by omega
 obtain ⟨kb, ko, rfl, hSk, hkj⟩ := hkc hpl
 obtain ⟨u0, u1, u2, u3, u4, u5, h0, h1, h2, h3, h4, h5, hkid⟩ := hkj 2 kn hkn
 obtain ⟨y0, y1, y2, y3, y4, y5, g0, g1, g2, g3, g4, g5, gkid⟩ := hkj 3 km hkm
 obtain ⟨D1, i1, D2, i2, gkv⟩ := gkid.form
 obtain rfl : y2 = .string ⟨km.text.toArray⟩ := by
  injection gkv with gkv
  have e := congrArg Array.toList gkv
  simp only [List.cons.injEq] at e
  exact e.2.2.1
 obtain ⟨B1, j1, B2, j2, hkv⟩ := hkid.form
 obtain rfl : u2 = .string ⟨kn.text.toArray⟩ := by
  injection hkv with hkv
  have e := congrArg Array.toList hkv
  simp only [List.cons.injEq] at e
  exact e.2.2.1
 have hWl := hW.lt
 have HW := Lib.hid hW
 have HS := Lib.hid hS
 have HK1 := Lib.hid hK1
 have HK2 := Lib.hid hK2
 have l0 : (0 : Int) < (n.kids.length : Int) := by omega
 have l1 : (2 : Int) < (n.kids.length : Int) := by omega
 have l2 : (3 : Int) < (n.kids.length : Int) := by omega
 clear hW hS hK1 hK2 hkj hkc
 go_enter Tryz.func60, Tryz.ntmps60
 go_wp2_with (fail)
 obtain ⟨w1, hw1⟩ : ∃ w1, (w.alloc (.cells #[.string ⟨n.op.toArray⟩, .int .i64 n.int, .string ⟨n.text.toArray⟩, .int .i64 n.ty.kind, .slice A n.ty.args.length c, .slice (some ⟨kb, ko, none⟩) n.kids.length k] 41)).alloc (.cells #[.int .i64 0, .slice none 0 0] 34) = w1 := ⟨_, rfl⟩
 have hWI1 : WkI w1 W P it sides names NA nk AV ps := by rw [← hw1]; exact (HW.out.alloc _).alloc _
 have hb1 : Below w.heap.size w w1 := by
  rw [← hw1]
  exact ((Below.refl w.heap.size w).alloc (Nat.le_refl _) _).alloc (by simp) _
 have h10 : w1.heap[w.heap.size]? = some (.cells #[.string ⟨n.op.toArray⟩, .int .i64 n.int, .string ⟨n.text.toArray⟩, .int .i64 n.ty.kind, .slice A n.ty.args.length c, .slice (some ⟨kb, ko, none⟩) n.kids.length k] 41 (0, 0)) := by
  rw [← hw1]
  exact (Below.heap_alloc _ _ _ (by simp)).trans (heap_alloc_new w _)
 have h11 : w1.heap[w.heap.size + 1]? = some (.cells #[.int .i64 0, .slice none 0 0] 34 (0, 0)) := by
  rw [← hw1]
  simpa using heap_alloc_new (w.alloc (.cells #[.string ⟨n.op.toArray⟩, .int .i64 n.int, .string ⟨n.text.toArray⟩, .int .i64 n.ty.kind, .slice A n.ty.args.length c, .slice (some ⟨kb, ko, none⟩) n.kids.length k] 41)) (.cells #[.int .i64 0, .slice none 0 0] 34)
 have hs1 : w1.heap.size = w.heap.size + 2 := by rw [← hw1]; simp
 have HOWL : Hid (∀ g, AV.ownBlock = some g → g < w.heap.size) := Lib.hid fun g hg => (HW.out.own.lt g hg).2
 have HC1 := Lib.hid (ckids_any W P S it sides names NA nk AV ps _ n dn 2 f w1 hWI1 (by decide) (HN.out.below hb1) (fun k hk => ⟨by have := (HS.out k hk).1; omega, (HS.out k hk).2⟩) HK1.out)
 have HB1 := Lib.hid hb1
 have H10 := Lib.hid h10
 have H11 := Lib.hid h11
 rw [hw1]
 clear hw1 hWI1 hb1 h10 h11
 refine HC1.out.mono ?_
 rintro e w3 ho
 cases hrk : yC f 2 0 with
 | error x =>
   obtain ⟨no, qs⟩ := x
   rw [hrk] at ho
   have HRK := Lib.hid hrk
   clear hrk
   obtain ⟨hno, AV3, rfl, hWI, hWS⟩ := ho
   have hs3 := hWS.size
   have hr3 := (hWS.block (w.heap.size + 1) (by omega) (by omega) (fun e => by have := HOWL.out _ e.symm; omega)).trans H11.out
   have x0 := zD (i := 0) hr3 rfl
   have x1 := zD (i := 1) hr3 rfl
   have xf0 := zI (i := 0) hr3
   have xf1 := zI (i := 1) hr3
   have HWI := Lib.hid hWI
   have HWS := Lib.hid ((WkS.of_below (W := W) (AV := AV) HB1.out).trans hWS)
   have HOW3 : Hid (∀ g, AV3.ownBlock = some g → g ≠ w.heap.size + 1) := Lib.hid fun g hg => by
    rcases hWS.own with e | e
    · rw [e] at hg
      have := HOWL.out g hg
      omega
    · have := e g hg
      omega
   have hno' : (no == 0) = false := by simp [hno]
   clear hWI hWS hr3
   go_wp2_with (fail)
   refine bodyPost_ret (v := .tuple #[.agg #[.int .i64 0, .slice none 0 0], .int .i64 no]) (by simp [results, Tryz.results60, go_sem, x0, x1]) rfl ?_
   rw [show foldR ps (yC f 2 0) r2 = .error (no, qs) by rw [HRK.out]; rfl]
   refine kid_err HW.out HWI.out HWS.out hno HOW3.out (fun b hb hn1 => ?_) (by simp [World.setCell]) ⟨rfl, rfl, rfl⟩
   rw [Below.heap_setCell _ _ _ _ (by show b ≠ w.heap.size + 1; exact hn1), Below.heap_setCell _ _ _ _ (by show b ≠ w.heap.size + 1; exact hn1)]
 | ok ts =>
   rw [hrk] at ho
   obtain ⟨AV3, NB, cs, rfl, hlen, hKI⟩ := ho
   obtain ⟨t, d, rfl, hf0, hf1⟩ := kids_two hrk
   have hWS := hKI.step
   have hWI := hKI.walk
   obtain ⟨DD, hargs⟩ := hKI.args
   obtain ⟨ua, ub, e0, e1, hTt⟩ := hargs 0 t rfl
   obtain ⟨va, vb, e2, e3, hTd⟩ := hargs 1 d rfl
   obtain ⟨A6, k6, rfl, rfl⟩ := ty_parts hTt
   obtain ⟨A5, k5, rfl, rfl⟩ := ty_parts hTd
   rw [hs1] at hTt hTd
   have hs3 := hWS.size
   have hr3 := (hWS.block (w.heap.size + 1) (by omega) (by omega) (fun e => by have := HOWL.out _ e.symm; omega)).trans H11.out
   have hn3 := (hWS.block w.heap.size (by omega) (by omega) (fun e => by have := HOWL.out _ e.symm; omega)).trans H10.out
   have htb := hKI.tbl
   have b0 : w3.cell? ⟨w1.heap.size + 1, 0, none⟩ = some (.int .i64 t.kind) := zD (i := 0) htb (by simpa using e0)
   have b1 : w3.cell? ⟨w1.heap.size + 1, 1, none⟩ = some (.slice A6 t.args.length k6) := zD (i := 1) htb (by simpa using e1)
   have b2 : w3.cell? ⟨w1.heap.size + 1, 2, none⟩ = some (.int .i64 d.kind) := zD (i := 2) htb (by simpa using e2)
   have b3 : w3.cell? ⟨w1.heap.size + 1, 3, none⟩ = some (.slice A5 d.args.length k5) := zD (i := 3) htb (by simpa using e3)
   have hbl := zC htb
   have HTt := Lib.hid hTt
   have HTd := Lib.hid hTd
   have HWI := Lib.hid hWI
   have HWS := Lib.hid ((WkS.of_below (W := W) (AV := AV) HB1.out).trans hWS)
   have HR3 := Lib.hid hr3
   have HN3 := Lib.hid hn3
   have HF0 := Lib.hid hf0
   have HF1 := Lib.hid hf1
   have HO3 : Hid (∀ g, AV3.ownBlock = some g → g < w3.heap.size ∧ (g < w.heap.size ∨ w.heap.size + 2 ≤ g)) := Lib.hid fun g hg => ⟨hWI.ownlt g hg, by
    rcases hWS.own with e | e
    · rw [e] at hg
      have := HOWL.out g hg
      omega
    · have := e g hg
      omega⟩
   have HS3 : Hid (∀ k, S k → Fr w3.heap.size W AV3 k ∧ w3.heap[k]? = w1.heap[k]?) := Lib.hid fun k hk => Fr.step hWS ⟨by have := (HS.out k hk).1; omega, (HS.out k hk).2⟩
   have n13 : w.heap.size + 2 ≤ w3.heap.size := by omega
   have HRK := Lib.hid hrk
   have HS1 := Lib.hid hs1
   clear hs1 hrk hKI hargs e0 e1 e2 e3 hTt hTd hWS hWI hr3 hn3 htb hf0 hf1
   generalize w1.heap.size + 1 = G at *
   go_upto_region 4 with (fail)
   go_cut [8, 9] from 21 to 26 (fun s8 s9 wx => TwoT w3 (.int .i64 t.kind, .slice A6 t.args.length k6) (.int .i64 d.kind, .slice A5 d.args.length k5) s8 s9 wx)
   case first =>
    go_region_law (fail)
    all_goals (
     go_wp2_with (fail)
     go_meet
     first | exact twoT_ab w3 (.int .i64 t.kind, .slice A6 t.args.length k6) (.int .i64 d.kind, .slice A5 d.args.length k5) | exact twoT_ba w3 (.int .i64 t.kind, .slice A6 t.args.length k6) (.int .i64 d.kind, .slice A5 d.args.length k5))
   obtain ⟨p, q, rfl, rfl, hpq, hp, hq, hxp, hxq, hbx⟩ := hcut
   obtain ⟨w4, hw4⟩ : ∃ w4 : World, w4 = wc := ⟨_, rfl⟩
   subst hw4
   have h34 := hbx.size
   have n14 : w.heap.size + 2 ≤ w4.heap.size := by omega
   have hWl4 : W < w4.heap.size := by omega
   have HWI4 := Lib.hid (HWI.out.low_ hbx)
   have HWS4 := Lib.hid (HWS.out.trans (WkS.of_below (W := W) (AV := AV3) hbx))
   have HN4 := Lib.hid ((hbx.block w.heap.size (by omega)).trans HN3.out)
   have HR4 := Lib.hid ((hbx.block (w.heap.size + 1) (by omega)).trans HR3.out)
   have HO4 : Hid (∀ g, AV3.ownBlock = some g → g < w4.heap.size ∧ (g < w.heap.size ∨ w.heap.size + 2 ≤ g)) := Lib.hid fun g hg => ⟨by have := (HO3.out g hg).1; omega, (HO3.out g hg).2⟩
   have HS4 : Hid (∀ k, S k → Fr w4.heap.size W AV3 k ∧ w4.heap[k]? = w1.heap[k]?) := Lib.hid fun k hk => ⟨⟨by have := (HS3.out k hk).1.1; omega, (HS3.out k hk).1.2⟩, (hbx.block k (HS3.out k hk).1.1).trans (HS3.out k hk).2⟩
   have HTt4 : Hid (TyAt w4 (fun k => P k ∨ (w.heap.size + 2 ≤ k ∧ k < w4.heap.size ∧ some k ≠ AV3.ownBlock)) DD (.agg #[.int .i64 t.kind, .slice A6 t.args.length k6]) t) := Lib.hid ((HTt.out.below hbx).move fun b hb _ => ⟨hb.imp id fun ⟨h1, h2, h3⟩ => ⟨by omega, by omega, h3⟩, fun _ => rfl⟩)
   have HTd4 : Hid (TyAt w4 (fun k => P k ∨ (w.heap.size + 2 ≤ k ∧ k < w4.heap.size ∧ some k ≠ AV3.ownBlock)) DD (.agg #[.int .i64 d.kind, .slice A5 d.args.length k5]) d) := Lib.hid ((HTd.out.below hbx).move fun b hb _ => ⟨hb.imp id fun ⟨h1, h2, h3⟩ => ⟨by omega, by omega, h3⟩, fun _ => rfl⟩)
   have hpl4 := zC hxp
   have hql4 := zC hxq
   have HPA : Hid (some p ≠ AV3.ownBlock) := Lib.hid (fun e => by have := (HO3.out _ e.symm).1; omega)
   have HQA : Hid (some q ≠ AV3.ownBlock) := Lib.hid (fun e => by have := (HO3.out _ e.symm).1; omega)
   have HXQ := Lib.hid hxq
   have p0 : w4.cell? ⟨p, 0, none⟩ = some (.int .i64 t.kind) := zD (i := 0) hxp rfl
   have p1 : w4.cell? ⟨p, 1, none⟩ = some (.slice A6 t.args.length k6) := zD (i := 1) hxp rfl
   have q0 : w4.cell? ⟨q, 0, none⟩ = some (.int .i64 d.kind) := zD (i := 0) hxq rfl
   have q1 : w4.cell? ⟨q, 1, none⟩ = some (.slice A5 d.args.length k5) := zD (i := 1) hxq rfl
   have hpW : p ≠ W ∧ p ≠ w.heap.size ∧ p ≠ w.heap.size + 1 := by omega
   have hqW : q ≠ W ∧ q ≠ w.heap.size ∧ q ≠ w.heap.size + 1 := by omega
   have k2 := ((World.cell?_of_block ((HS4.out kb hSk).2.trans (HB1.out.block kb (HS.out kb hSk).1))).trans h2)
   have k3 := ((World.cell?_of_block ((HS4.out kb hSk).2.trans (HB1.out.block kb (HS.out kb hSk).1))).trans g2)
   clear hbx hxp hxq h0 h1 h2 h3 h4 h5 g0 g1 g2 g3 g4 g5 b0 b1 b2 b3 HTt HTd HWI HWS HN3 HR3 HS3
   have HRD : Hid (foldR ps (yC f 2 0) r2 = (if t.kind = 7 then foldE ps d (r2 d (t.args.headD ty0)) else .error (50, ps))) := Lib.hid (by rw [HRK.out]; rfl)
   by_cases h7 : t.kind = 7
   · obtain ⟨a, ha⟩ := hr1 t HF0.out h7
     have h7' : (t.kind != 7) = false := by simp [h7]
     have H7 := Lib.hid h7
     clear h7
     have hlaN : 0 < t.args.length := by simp [ha]
     have hlaE : ¬ t.args = [] := by simp [ha]
     have hla : (0 : Int) < (t.args.length : Int) := by simp [ha]
     obtain ⟨dd, hdd, hAR⟩ := ty_args HTt4.out
     obtain ⟨ab, ao, hA6, hab, habs⟩ := hAR (by simp [ha])
     obtain ⟨ua, ub, ha0, ha1, hTa⟩ := habs 0 a (by rw [ha]; rfl)
     obtain ⟨Aa, ka, rfl, rfl⟩ := ty_parts hTa
     subst hA6
     have ha0 : w4.cell? ⟨ab, ao, none⟩ = some (.int .i64 a.kind) := by simpa using ha0
     have ha1 : w4.cell? ⟨ab, ao + 1, none⟩ = some (.slice Aa a.args.length ka) := by simpa using ha1
     have hab3 : ab < w4.heap.size := World.block_lt_of_cell? w4 _ ha0
     have habW : ab ≠ W ∧ ab ≠ w.heap.size ∧ ab ≠ w.heap.size + 1 ∧ some ab ≠ AV3.ownBlock := by
      rcases hab with h | ⟨h1, h2, h3⟩
      · exact ⟨(HWI4.out.sep ab h).2.1, by have := (HW.out.sep ab h).1; omega, by have := (HW.out.sep ab h).1; omega, (HWI4.out.sep ab h).2.2⟩
      · exact ⟨by omega, by omega, by omega, h3⟩
     have hW2 : W < w.heap.size + 2 := by omega
     have HN1 := Lib.hid (HN.out.below HB1.out)
     have HTa : Hid (∀ BK, TyAt w4 (fun k => (P k ∨ (w.heap.size + 2 ≤ k ∧ k < w4.heap.size ∧ some k ≠ AV3.ownBlock)) ∨ k = BK) DD (.agg #[.int .i64 a.kind, .slice Aa a.args.length ka]) a) := Lib.hid fun BK => ty_more _ _ (by omega) (hTa.move fun b hb _ => ⟨.inl hb, fun _ => rfl⟩)
     have HTD : Hid (∀ BK, TyAt w4 (fun k => (P k ∨ (w.heap.size + 2 ≤ k ∧ k < w4.heap.size ∧ some k ≠ AV3.ownBlock)) ∨ k = BK) DD (.agg #[.int .i64 d.kind, .slice A5 d.args.length k5]) d) := Lib.hid fun BK => HTd4.out.move fun b hb _ => ⟨.inl hb, fun _ => rfl⟩
     have HQC : Hid (∀ (wz : World) (BK k : Nat), w4.heap.size ≤ BK → BK < wz.heap.size → (P k ∨ (w.heap.size + 2 ≤ k ∧ k < w4.heap.size ∧ some k ≠ AV3.ownBlock)) ∨ k = BK → P k ∨ (w.heap.size + 2 ≤ k ∧ k < w4.heap.size ∧ some k ≠ AV3.ownBlock) ∨ (w4.heap.size ≤ k ∧ k < wz.heap.size)) := Lib.hid fun wz BK k h1 h2 h => by
      rcases h with (h | h) | h
      · exact .inl h
      · exact .inr (.inl h)
      · exact .inr (.inr ⟨by omega, by omega⟩)
     have HWN : Hid (∀ (wz : World) (BK : Nat), Below w4.heap.size w4 wz → w4.heap.size ≤ BK → wz.heap[BK]? = some (.cells #[.string ⟨kn.text.toArray⟩, .int .i64 d.kind, .slice A5 d.args.length k5, .string ⟨km.text.toArray⟩, .int .i64 a.kind, .slice Aa a.args.length ka] 160 (0, 0)) →
         Calls Tryz.prog 94 #[.pointer (some ⟨W, 0, none⟩), .agg #[.string ⟨n.op.toArray⟩, .int .i64 n.int, .string ⟨n.text.toArray⟩, .int .i64 n.ty.kind, .slice A n.ty.args.length c, .slice (some ⟨kb, ko, none⟩) n.kids.length k], .slice (some ⟨BK, 0, none⟩) 2 2] wz fun e w' => WnOut wz w' W P (fun k => (P k ∨ (w.heap.size + 2 ≤ k ∧ k < w4.heap.size ∧ some k ≠ AV3.ownBlock)) ∨ k = BK) it sides names NA nk AV3 ps e (r2 d a)) := Lib.hid fun wz BK hb hBK hblk => by
      have hlz := zC hblk
      have hfr := fr_of (wz := wz) HWI4.out (fun k hk => HQC.out wz BK k hBK hlz hk) hW2 hb.size
      refine within_any W P _ S it sides names [(kn.text, d), (km.text, a)] NA (some ⟨BK, 0, none⟩) nk 2 DD AV3 ps _ n dn (r2 d a) wz (HWI4.out.low_ hb) hnl hnil (by simp) (by simp) (bty_two (x := (kn.text, d)) (y := (km.text, a)) hblk (.inr rfl) ((HTD.out BK).below hb) ((HTa.out BK).below hb)) hfr hpl hk1 ((HN1.out.move fun b hb' _ => ⟨hb', fun _ => World.cell?_of_block (HS4.out b hb').2⟩).below hb) (fun k hk => ⟨by have := (HS4.out k hk).1.1; have := hb.size; omega, (HS4.out k hk).1.2⟩) ?_
      intro g cap w5 hw5 hn5 hs5
      have hk2 := fun P' => HK2.out P' t d AV3 g cap w5 HF0.out HF1.out H7.out
      simp only [show t.args.headD ty0 = a by rw [ha]; rfl] at hk2
      exact hk2 _ hw5 hn5 hs5 (fun k hk => .inl hk)
     clear hAR hab habs hTa
     have hkb3 : kb < w4.heap.size := (HS4.out kb hSk).1.1
     have hkb0 : kb < w.heap.size := (HS.out kb hSk).1
     have hkbW : kb ≠ W := (HS4.out kb hSk).1.2.1
     have HKA : Hid (some kb ≠ AV3.ownBlock) := Lib.hid (HS4.out kb hSk).1.2.2
     have HNA : Hid (some w.heap.size ≠ AV3.ownBlock) := Lib.hid (fun e => by have := (HO4.out _ e.symm).2; omega)
     have HAA : Hid (some ab ≠ AV3.ownBlock) := Lib.hid habW.2.2.2
     have habW1 := habW.1
     have habW2 := habW.2.1
     have habW3 := habW.2.2.1
     clear habW
     have HEA : Hid (t.args.headD ty0 = a) := Lib.hid (by rw [ha]; rfl)
     clear ha
     go_upto_region 7 with (fail)
     have k2 : w4.cell? ⟨kb, ko + 14, none⟩ = some (.string ⟨kn.text.toArray⟩) := by simpa using k2
     have k3 : w4.cell? ⟨kb, ko + 20, none⟩ = some (.string ⟨km.text.toArray⟩) := by simpa using k3
     have n0 : w4.cell? ⟨w.heap.size, 0, none⟩ = some (.string ⟨n.op.toArray⟩) := zD (i := 0) HN4.out rfl
     have n1 : w4.cell? ⟨w.heap.size, 1, none⟩ = some (.int .i64 n.int) := zD (i := 1) HN4.out rfl
     have n2 : w4.cell? ⟨w.heap.size, 2, none⟩ = some (.string ⟨n.text.toArray⟩) := zD (i := 2) HN4.out rfl
     have n3 : w4.cell? ⟨w.heap.size, 3, none⟩ = some (.int .i64 n.ty.kind) := zD (i := 3) HN4.out rfl
     have n4 : w4.cell? ⟨w.heap.size, 4, none⟩ = some (.slice A n.ty.args.length c) := zD (i := 4) HN4.out rfl
     have n5 : w4.cell? ⟨w.heap.size, 5, none⟩ = some (.slice (some ⟨kb, ko, none⟩) n.kids.length k) := zD (i := 5) HN4.out rfl
     obtain ⟨r, hr⟩ : ∃ r, r = r2 d a := ⟨_, rfl⟩
     rw [← hr] at HWN
     have HR2 := Lib.hid hr
     clear hr
     go_cut [7, 10] from 31 to 54 (fun s7 s8 wx => EcOut w wx W P it sides names NA nk AV ps #[.string ⟨n.op.toArray⟩, .int .i64 n.int, .string ⟨n.text.toArray⟩, .int .i64 n.ty.kind, .slice A n.ty.args.length c, .slice (some ⟨kb, ko, none⟩) n.kids.length k] q d s7 s8 r)
     case first =>
      have hs4a : (w4.alloc (.cells #[.int .i64 0, .slice none 0 0] 34)).heap.size = w4.heap.size + 1 := by simp
      have hs4b : (w4.alloc (.cells #[.string ⟨kn.text.toArray⟩, .int .i64 d.kind, .slice A5 d.args.length k5, .string ⟨km.text.toArray⟩, .int .i64 a.kind, .slice Aa a.args.length ka] 160)).heap.size = w4.heap.size + 1 := by simp
      have hB41 : Below w4.heap.size w4 ((w4.alloc (.cells #[.int .i64 0, .slice none 0 0] 34)).alloc (.cells #[.string ⟨kn.text.toArray⟩, .int .i64 d.kind, .slice A5 d.args.length k5, .string ⟨km.text.toArray⟩, .int .i64 a.kind, .slice Aa a.args.length ka] 160)).drew := ((((Below.refl _ w4).alloc (Nat.le_refl _) _).alloc (by omega) _)).drew
      have hB42 : Below w4.heap.size w4 ((w4.alloc (.cells #[.string ⟨kn.text.toArray⟩, .int .i64 d.kind, .slice A5 d.args.length k5, .string ⟨km.text.toArray⟩, .int .i64 a.kind, .slice Aa a.args.length ka] 160)).alloc (.cells #[.int .i64 0, .slice none 0 0] 34)).drew := ((((Below.refl _ w4).alloc (Nat.le_refl _) _).alloc (by omega) _)).drew
      have hB43 : Below w4.heap.size w4 (w4.alloc (.cells #[.string ⟨kn.text.toArray⟩, .int .i64 d.kind, .slice A5 d.args.length k5, .string ⟨km.text.toArray⟩, .int .i64 a.kind, .slice Aa a.args.length ka] 160)).drew := ((Below.refl _ w4).alloc (Nat.le_refl _) _).drew
      have hZB1 : (((w4.alloc (.cells #[.int .i64 0, .slice none 0 0] 34)).alloc (.cells #[.string ⟨kn.text.toArray⟩, .int .i64 d.kind, .slice A5 d.args.length k5, .string ⟨km.text.toArray⟩, .int .i64 a.kind, .slice Aa a.args.length ka] 160)).drew).heap[w4.heap.size + 1]? = some (.cells #[.string ⟨kn.text.toArray⟩, .int .i64 d.kind, .slice A5 d.args.length k5, .string ⟨km.text.toArray⟩, .int .i64 a.kind, .slice Aa a.args.length ka] 160 (0, 0)) := by
       have h := heap_alloc_new (w4.alloc (.cells #[.int .i64 0, .slice none 0 0] 34)) (.cells #[.string ⟨kn.text.toArray⟩, .int .i64 d.kind, .slice A5 d.args.length k5, .string ⟨km.text.toArray⟩, .int .i64 a.kind, .slice Aa a.args.length ka] 160)
       rw [hs4a] at h
       exact h
      have hZB3 : (w4.alloc (.cells #[.string ⟨kn.text.toArray⟩, .int .i64 d.kind, .slice A5 d.args.length k5, .string ⟨km.text.toArray⟩, .int .i64 a.kind, .slice Aa a.args.length ka] 160)).heap[w4.heap.size]? = some (.cells #[.string ⟨kn.text.toArray⟩, .int .i64 d.kind, .slice A5 d.args.length k5, .string ⟨km.text.toArray⟩, .int .i64 a.kind, .slice Aa a.args.length ka] 160 (0, 0)) := heap_alloc_new w4 (.cells #[.string ⟨kn.text.toArray⟩, .int .i64 d.kind, .slice A5 d.args.length k5, .string ⟨km.text.toArray⟩, .int .i64 a.kind, .slice Aa a.args.length ka] 160)
      have hZB2 : (((w4.alloc (.cells #[.string ⟨kn.text.toArray⟩, .int .i64 d.kind, .slice A5 d.args.length k5, .string ⟨km.text.toArray⟩, .int .i64 a.kind, .slice Aa a.args.length ka] 160)).alloc (.cells #[.int .i64 0, .slice none 0 0] 34)).drew).heap[w4.heap.size]? = some (.cells #[.string ⟨kn.text.toArray⟩, .int .i64 d.kind, .slice A5 d.args.length k5, .string ⟨km.text.toArray⟩, .int .i64 a.kind, .slice Aa a.args.length ka] 160 (0, 0)) := (Below.heap_alloc _ _ _ (by omega)).trans hZB3
      have hZT1 : (((w4.alloc (.cells #[.int .i64 0, .slice none 0 0] 34)).alloc (.cells #[.string ⟨kn.text.toArray⟩, .int .i64 d.kind, .slice A5 d.args.length k5, .string ⟨km.text.toArray⟩, .int .i64 a.kind, .slice Aa a.args.length ka] 160)).drew).heap[w4.heap.size]? = some (.cells #[.int .i64 0, .slice none 0 0] 34 (0, 0)) := (Below.heap_alloc _ _ _ (by omega)).trans (heap_alloc_new w4 (.cells #[.int .i64 0, .slice none 0 0] 34))
      have hZT2 : (((w4.alloc (.cells #[.string ⟨kn.text.toArray⟩, .int .i64 d.kind, .slice A5 d.args.length k5, .string ⟨km.text.toArray⟩, .int .i64 a.kind, .slice Aa a.args.length ka] 160)).alloc (.cells #[.int .i64 0, .slice none 0 0] 34)).drew).heap[w4.heap.size + 1]? = some (.cells #[.int .i64 0, .slice none 0 0] 34 (0, 0)) := by
       have h := heap_alloc_new (w4.alloc (.cells #[.string ⟨kn.text.toArray⟩, .int .i64 d.kind, .slice A5 d.args.length k5, .string ⟨km.text.toArray⟩, .int .i64 a.kind, .slice Aa a.args.length ka] 160)) (.cells #[.int .i64 0, .slice none 0 0] 34)
       rw [hs4b] at h
       exact h
      have hZs1 : (((w4.alloc (.cells #[.int .i64 0, .slice none 0 0] 34)).alloc (.cells #[.string ⟨kn.text.toArray⟩, .int .i64 d.kind, .slice A5 d.args.length k5, .string ⟨km.text.toArray⟩, .int .i64 a.kind, .slice Aa a.args.length ka] 160)).drew).heap.size = w4.heap.size + 2 := by show ((w4.alloc _).alloc _).heap.size = _; simp
      have hZs2 : (((w4.alloc (.cells #[.string ⟨kn.text.toArray⟩, .int .i64 d.kind, .slice A5 d.args.length k5, .string ⟨km.text.toArray⟩, .int .i64 a.kind, .slice Aa a.args.length ka] 160)).alloc (.cells #[.int .i64 0, .slice none 0 0] 34)).drew).heap.size = w4.heap.size + 2 := by show ((w4.alloc _).alloc _).heap.size = _; simp
      have hZs3 : ((w4.alloc (.cells #[.string ⟨kn.text.toArray⟩, .int .i64 d.kind, .slice A5 d.args.length k5, .string ⟨km.text.toArray⟩, .int .i64 a.kind, .slice Aa a.args.length ka] 160)).drew).heap.size = w4.heap.size + 1 := by show (w4.alloc _).heap.size = _; simp
      have HC1 := Lib.hid (HWN.out _ (w4.heap.size + 1) hB41 (by omega) hZB1)
      have HC2 := Lib.hid (HWN.out _ w4.heap.size hB42 (by omega) hZB2)
      have HC3 := Lib.hid (HWN.out _ w4.heap.size hB43 (by omega) hZB3)
      have HZ1 := Lib.hid (And.intro hB41 (And.intro hZT1 hZs1))
      have HZ2 := Lib.hid (And.intro hB42 (And.intro hZT2 hZs2))
      have HZ3 := Lib.hid (And.intro hB43 hZs3)
      have HFAR : Hid (∀ (wz w7 : World) (AV7 : Value), Below w4.heap.size w4 wz → WkS wz w7 W AV3 AV7 → (∀ k, k < w4.heap.size → k ≠ W → some k ≠ AV3.ownBlock → w7.heap[k]? = w4.heap[k]?) ∧ w4.heap.size ≤ w7.heap.size) := Lib.hid fun wz w7 AV7 hz h7 => ⟨fun k hk hW hA => (h7.block k (by have := hz.size; omega) hW hA).trans (hz.block k hk), by have := hz.size; have := h7.size; omega⟩
      clear hB41 hB42 hB43 hZB1 hZB2 hZB3 hZT1 hZT2 hZs1 hZs2 hZs3 hs4a hs4b
      cases r with
      | ok u =>
        go_region_held3 (fun w' => w'.cell? ⟨w.heap.size, 0, none⟩ = some (.string ⟨n.op.toArray⟩) ∧ w'.cell? ⟨w.heap.size, 1, none⟩ = some (.int .i64 n.int) ∧ w'.cell? ⟨w.heap.size, 2, none⟩ = some (.string ⟨n.text.toArray⟩) ∧ w'.cell? ⟨w.heap.size, 3, none⟩ = some (.int .i64 n.ty.kind) ∧ w'.cell? ⟨w.heap.size, 4, none⟩ = some (.slice A n.ty.args.length c) ∧ w'.cell? ⟨w.heap.size, 5, none⟩ = some (.slice (some ⟨kb, ko, none⟩) n.kids.length k) ∧ w'.cell? ⟨kb, ko + 14, none⟩ = some (.string ⟨kn.text.toArray⟩) ∧ w'.cell? ⟨kb, ko + 20, none⟩ = some (.string ⟨km.text.toArray⟩) ∧ w'.cell? ⟨p, 1, none⟩ = some (.slice (some ⟨ab, ao, none⟩) t.args.length k6) ∧ w'.cell? ⟨q, 0, none⟩ = some (.int .i64 d.kind) ∧ w'.cell? ⟨q, 1, none⟩ = some (.slice A5 d.args.length k5) ∧ w'.cell? ⟨ab, ao, none⟩ = some (.int .i64 a.kind) ∧ w'.cell? ⟨ab, ao + 1, none⟩ = some (.slice Aa a.args.length ka))
         (((refine ⟨?_, ?_, ?_, ?_, ?_, ?_, ?_, ?_, ?_, ?_, ?_, ?_, ?_⟩ <;> (repeat' (first | with_reducible assumption | with_reducible refine zX ?_ | with_reducible refine cell_alloc2 ?_ ?_ | with_reducible refine cell_set_some ?_ ?_ | omega | (show _ < w4.heap.size; omega) | (simp only [World.size_alloc]; omega) | (dsimp only; omega))))))
         (first
         | (go_at_call 94; (with_reducible refine HC1.out.mono ?_); rintro e w7 ⟨AV7, v7, d7, rfl, hT7, hWI7, hWS7⟩; obtain ⟨A9, k9, rfl⟩ := hT7.form; have HT7 := Lib.hid hT7; clear hT7; have HWI7 := Lib.hid hWI7; have HWS7 := Lib.hid hWS7; have hF := HFAR.out _ w7 AV7 HZ1.out.1 hWS7; have tb := (hWS7.block (w4.heap.size) (by rw [HZ1.out.2.2]; omega) (by omega) (fun e => by have := (HO4.out _ e.symm).1; omega)).trans HZ1.out.2.1; have tb0 := zD (i := 0) tb rfl; have tb1 := zD (i := 1) tb rfl; have tf0 := zI (i := 0) tb; have tf1 := zI (i := 1) tb; have HTB1 := Lib.hid tb; have hl1 := zC tb; clear tb; clear hWI7 hWS7; have m0 : w7.cell? ⟨w.heap.size, 0, none⟩ = some (.string ⟨n.op.toArray⟩) := (World.cell?_of_block (hF.1 w.heap.size (by omega) (by omega) HNA.out)).trans n0; have m1 : w7.cell? ⟨w.heap.size, 1, none⟩ = some (.int .i64 n.int) := (World.cell?_of_block (hF.1 w.heap.size (by omega) (by omega) HNA.out)).trans n1; have m2 : w7.cell? ⟨w.heap.size, 2, none⟩ = some (.string ⟨n.text.toArray⟩) := (World.cell?_of_block (hF.1 w.heap.size (by omega) (by omega) HNA.out)).trans n2; have m3 : w7.cell? ⟨w.heap.size, 3, none⟩ = some (.int .i64 n.ty.kind) := (World.cell?_of_block (hF.1 w.heap.size (by omega) (by omega) HNA.out)).trans n3; have m4 : w7.cell? ⟨w.heap.size, 4, none⟩ = some (.slice A n.ty.args.length c) := (World.cell?_of_block (hF.1 w.heap.size (by omega) (by omega) HNA.out)).trans n4; have m5 : w7.cell? ⟨w.heap.size, 5, none⟩ = some (.slice (some ⟨kb, ko, none⟩) n.kids.length k) := (World.cell?_of_block (hF.1 w.heap.size (by omega) (by omega) HNA.out)).trans n5; have m6 : w7.cell? ⟨kb, ko + 14, none⟩ = some (.string ⟨kn.text.toArray⟩) := (World.cell?_of_block (hF.1 kb (by omega) hkbW HKA.out)).trans k2; have m7 : w7.cell? ⟨kb, ko + 20, none⟩ = some (.string ⟨km.text.toArray⟩) := (World.cell?_of_block (hF.1 kb (by omega) hkbW HKA.out)).trans k3; have m8 : w7.cell? ⟨p, 1, none⟩ = some (.slice (some ⟨ab, ao, none⟩) t.args.length k6) := (World.cell?_of_block (hF.1 p (by omega) hpW.1 HPA.out)).trans p1; have m9 : w7.cell? ⟨q, 0, none⟩ = some (.int .i64 d.kind) := (World.cell?_of_block (hF.1 q (by omega) hqW.1 HQA.out)).trans q0; have m10 : w7.cell? ⟨q, 1, none⟩ = some (.slice A5 d.args.length k5) := (World.cell?_of_block (hF.1 q (by omega) hqW.1 HQA.out)).trans q1; have m11 : w7.cell? ⟨ab, ao, none⟩ = some (.int .i64 a.kind) := (World.cell?_of_block (hF.1 ab (by omega) habW1 HAA.out)).trans ha0; have m12 : w7.cell? ⟨ab, ao + 1, none⟩ = some (.slice Aa a.args.length ka) := (World.cell?_of_block (hF.1 ab (by omega) habW1 HAA.out)).trans ha1; have hs7 := hF.2; clear hF)
         | (go_at_call 94; (with_reducible refine HC2.out.mono ?_); rintro e w7 ⟨AV7, v7, d7, rfl, hT7, hWI7, hWS7⟩; obtain ⟨A9, k9, rfl⟩ := hT7.form; have HT7 := Lib.hid hT7; clear hT7; have HWI7 := Lib.hid hWI7; have HWS7 := Lib.hid hWS7; have hF := HFAR.out _ w7 AV7 HZ2.out.1 hWS7; have tb := (hWS7.block (w4.heap.size + 1) (by rw [HZ2.out.2.2]; omega) (by omega) (fun e => by have := (HO4.out _ e.symm).1; omega)).trans HZ2.out.2.1; have tb0 := zD (i := 0) tb rfl; have tb1 := zD (i := 1) tb rfl; have tf0 := zI (i := 0) tb; have tf1 := zI (i := 1) tb; have HTB2 := Lib.hid tb; have hl2 := zC tb; clear tb; clear hWI7 hWS7; have m0 : w7.cell? ⟨w.heap.size, 0, none⟩ = some (.string ⟨n.op.toArray⟩) := (World.cell?_of_block (hF.1 w.heap.size (by omega) (by omega) HNA.out)).trans n0; have m1 : w7.cell? ⟨w.heap.size, 1, none⟩ = some (.int .i64 n.int) := (World.cell?_of_block (hF.1 w.heap.size (by omega) (by omega) HNA.out)).trans n1; have m2 : w7.cell? ⟨w.heap.size, 2, none⟩ = some (.string ⟨n.text.toArray⟩) := (World.cell?_of_block (hF.1 w.heap.size (by omega) (by omega) HNA.out)).trans n2; have m3 : w7.cell? ⟨w.heap.size, 3, none⟩ = some (.int .i64 n.ty.kind) := (World.cell?_of_block (hF.1 w.heap.size (by omega) (by omega) HNA.out)).trans n3; have m4 : w7.cell? ⟨w.heap.size, 4, none⟩ = some (.slice A n.ty.args.length c) := (World.cell?_of_block (hF.1 w.heap.size (by omega) (by omega) HNA.out)).trans n4; have m5 : w7.cell? ⟨w.heap.size, 5, none⟩ = some (.slice (some ⟨kb, ko, none⟩) n.kids.length k) := (World.cell?_of_block (hF.1 w.heap.size (by omega) (by omega) HNA.out)).trans n5; have m6 : w7.cell? ⟨kb, ko + 14, none⟩ = some (.string ⟨kn.text.toArray⟩) := (World.cell?_of_block (hF.1 kb (by omega) hkbW HKA.out)).trans k2; have m7 : w7.cell? ⟨kb, ko + 20, none⟩ = some (.string ⟨km.text.toArray⟩) := (World.cell?_of_block (hF.1 kb (by omega) hkbW HKA.out)).trans k3; have m8 : w7.cell? ⟨p, 1, none⟩ = some (.slice (some ⟨ab, ao, none⟩) t.args.length k6) := (World.cell?_of_block (hF.1 p (by omega) hpW.1 HPA.out)).trans p1; have m9 : w7.cell? ⟨q, 0, none⟩ = some (.int .i64 d.kind) := (World.cell?_of_block (hF.1 q (by omega) hqW.1 HQA.out)).trans q0; have m10 : w7.cell? ⟨q, 1, none⟩ = some (.slice A5 d.args.length k5) := (World.cell?_of_block (hF.1 q (by omega) hqW.1 HQA.out)).trans q1; have m11 : w7.cell? ⟨ab, ao, none⟩ = some (.int .i64 a.kind) := (World.cell?_of_block (hF.1 ab (by omega) habW1 HAA.out)).trans ha0; have m12 : w7.cell? ⟨ab, ao + 1, none⟩ = some (.slice Aa a.args.length ka) := (World.cell?_of_block (hF.1 ab (by omega) habW1 HAA.out)).trans ha1; have hs7 := hF.2; clear hF)
         | (go_at_call 94; (with_reducible refine HC3.out.mono ?_); rintro e w7 ⟨AV7, v7, d7, rfl, hT7, hWI7, hWS7⟩; obtain ⟨A9, k9, rfl⟩ := hT7.form; have HT7 := Lib.hid hT7; clear hT7; have HWI7 := Lib.hid hWI7; have HWS7 := Lib.hid hWS7; have hF := HFAR.out _ w7 AV7 HZ3.out.1 hWS7; have HTB3 := Lib.hid True.intro; clear hWI7 hWS7; have m0 : w7.cell? ⟨w.heap.size, 0, none⟩ = some (.string ⟨n.op.toArray⟩) := (World.cell?_of_block (hF.1 w.heap.size (by omega) (by omega) HNA.out)).trans n0; have m1 : w7.cell? ⟨w.heap.size, 1, none⟩ = some (.int .i64 n.int) := (World.cell?_of_block (hF.1 w.heap.size (by omega) (by omega) HNA.out)).trans n1; have m2 : w7.cell? ⟨w.heap.size, 2, none⟩ = some (.string ⟨n.text.toArray⟩) := (World.cell?_of_block (hF.1 w.heap.size (by omega) (by omega) HNA.out)).trans n2; have m3 : w7.cell? ⟨w.heap.size, 3, none⟩ = some (.int .i64 n.ty.kind) := (World.cell?_of_block (hF.1 w.heap.size (by omega) (by omega) HNA.out)).trans n3; have m4 : w7.cell? ⟨w.heap.size, 4, none⟩ = some (.slice A n.ty.args.length c) := (World.cell?_of_block (hF.1 w.heap.size (by omega) (by omega) HNA.out)).trans n4; have m5 : w7.cell? ⟨w.heap.size, 5, none⟩ = some (.slice (some ⟨kb, ko, none⟩) n.kids.length k) := (World.cell?_of_block (hF.1 w.heap.size (by omega) (by omega) HNA.out)).trans n5; have m6 : w7.cell? ⟨kb, ko + 14, none⟩ = some (.string ⟨kn.text.toArray⟩) := (World.cell?_of_block (hF.1 kb (by omega) hkbW HKA.out)).trans k2; have m7 : w7.cell? ⟨kb, ko + 20, none⟩ = some (.string ⟨km.text.toArray⟩) := (World.cell?_of_block (hF.1 kb (by omega) hkbW HKA.out)).trans k3; have m8 : w7.cell? ⟨p, 1, none⟩ = some (.slice (some ⟨ab, ao, none⟩) t.args.length k6) := (World.cell?_of_block (hF.1 p (by omega) hpW.1 HPA.out)).trans p1; have m9 : w7.cell? ⟨q, 0, none⟩ = some (.int .i64 d.kind) := (World.cell?_of_block (hF.1 q (by omega) hqW.1 HQA.out)).trans q0; have m10 : w7.cell? ⟨q, 1, none⟩ = some (.slice A5 d.args.length k5) := (World.cell?_of_block (hF.1 q (by omega) hqW.1 HQA.out)).trans q1; have m11 : w7.cell? ⟨ab, ao, none⟩ = some (.int .i64 a.kind) := (World.cell?_of_block (hF.1 ab (by omega) habW1 HAA.out)).trans ha0; have m12 : w7.cell? ⟨ab, ao + 1, none⟩ = some (.slice Aa a.args.length ka) := (World.cell?_of_block (hF.1 ab (by omega) habW1 HAA.out)).trans ha1; have hs7 := hF.2; clear hF)
         | fail)
        all_goals go_wp2_with (fail)
        all_goals go_meet
        all_goals first
         | (
         have hmark := HTB1.out
         have hzs := HZ1.out.2.2
         have hBz := HZ1.out.1
         have hs7z := HWS7.out.size
         have hTz : w4.heap.size < (((w4.alloc (.cells #[.int .i64 0, .slice none 0 0] 34)).alloc (.cells #[.string ⟨kn.text.toArray⟩, .int .i64 d.kind, .slice A5 d.args.length k5, .string ⟨km.text.toArray⟩, .int .i64 a.kind, .slice Aa a.args.length ka] 160)).drew).heap.size ∨ w7.heap.size ≤ w4.heap.size := by omega
         have hTB : w4.heap.size ≤ w4.heap.size := by omega
         have far : ∀ b, b < w7.heap.size → b ≠ w4.heap.size → ((w7.setCell ⟨w4.heap.size, 0, none⟩ (.int .i64 u.kind)).setCell ⟨w4.heap.size, 1, none⟩ (.slice A9 u.args.length k9)).heap[b]? = w7.heap[b]? := fun b hb hne => by
          rw [Below.heap_setCell _ _ _ _ (by show b ≠ w4.heap.size; exact hne), Below.heap_setCell _ _ _ _ (by show b ≠ w4.heap.size; exact hne)]
         have sF : w7.heap.size ≤ ((w7.setCell ⟨w4.heap.size, 0, none⟩ (.int .i64 u.kind)).setCell ⟨w4.heap.size, 1, none⟩ (.slice A9 u.args.length k9)).heap.size := by simp [World.setCell]
         have hEC := ec_end HW.out HWS4.out HO4.out n14 hBz HWI7.out HWS7.out hTB hTz far sF ⟨rfl, rfl, rfl⟩ HN4.out HR4.out
         have hBU := box_u (BK := w4.heap.size + 1) (fun k hk => (HW.out.sep k hk).1) (fun g hg => (HO4.out g hg).1) n14 hBz.size HWI7.out HWS7.out hTB hTz (by omega) (by omega) (by omega) far sF (Bxs.set (vs := #[.int .i64 u.kind, .slice none 0 0]) (Bxs.set (vs := #[.int .i64 0, .slice none 0 0]) HTB1.out 0 (.int .i64 u.kind)) 1 (.slice A9 u.args.length k9)) HT7.out
         have hBT := box_q hWl HWI4.out n14 hBz HWS7.out hTB hTz far sF (B := q) (by omega) hqW.1 hqW.2.2 HQA.out HXQ.out HTd4.out
         exact ⟨w4.heap.size, AV7, rfl, rfl, hEC, hBU, hBT⟩)
         | (
         have hmark := HTB2.out
         have hzs := HZ2.out.2.2
         have hBz := HZ2.out.1
         have hs7z := HWS7.out.size
         have hTz : w4.heap.size + 1 < (((w4.alloc (.cells #[.string ⟨kn.text.toArray⟩, .int .i64 d.kind, .slice A5 d.args.length k5, .string ⟨km.text.toArray⟩, .int .i64 a.kind, .slice Aa a.args.length ka] 160)).alloc (.cells #[.int .i64 0, .slice none 0 0] 34)).drew).heap.size ∨ w7.heap.size ≤ w4.heap.size + 1 := by omega
         have hTB : w4.heap.size ≤ w4.heap.size + 1 := by omega
         have far : ∀ b, b < w7.heap.size → b ≠ w4.heap.size + 1 → ((w7.setCell ⟨w4.heap.size + 1, 0, none⟩ (.int .i64 u.kind)).setCell ⟨w4.heap.size + 1, 1, none⟩ (.slice A9 u.args.length k9)).heap[b]? = w7.heap[b]? := fun b hb hne => by
          rw [Below.heap_setCell _ _ _ _ (by show b ≠ w4.heap.size + 1; exact hne), Below.heap_setCell _ _ _ _ (by show b ≠ w4.heap.size + 1; exact hne)]
         have sF : w7.heap.size ≤ ((w7.setCell ⟨w4.heap.size + 1, 0, none⟩ (.int .i64 u.kind)).setCell ⟨w4.heap.size + 1, 1, none⟩ (.slice A9 u.args.length k9)).heap.size := by simp [World.setCell]
         have hEC := ec_end HW.out HWS4.out HO4.out n14 hBz HWI7.out HWS7.out hTB hTz far sF ⟨rfl, rfl, rfl⟩ HN4.out HR4.out
         have hBU := box_u (BK := w4.heap.size) (fun k hk => (HW.out.sep k hk).1) (fun g hg => (HO4.out g hg).1) n14 hBz.size HWI7.out HWS7.out hTB hTz (by omega) (by omega) (by omega) far sF (Bxs.set (vs := #[.int .i64 u.kind, .slice none 0 0]) (Bxs.set (vs := #[.int .i64 0, .slice none 0 0]) HTB2.out 0 (.int .i64 u.kind)) 1 (.slice A9 u.args.length k9)) HT7.out
         have hBT := box_q hWl HWI4.out n14 hBz HWS7.out hTB hTz far sF (B := q) (by omega) hqW.1 hqW.2.2 HQA.out HXQ.out HTd4.out
         exact ⟨w4.heap.size + 1, AV7, rfl, rfl, hEC, hBU, hBT⟩)
         | (
         have hmark := HTB3.out
         have hzs := HZ3.out.2
         have hBz := HZ3.out.1
         have hs7z := HWS7.out.size
         have hTz : w7.heap.size < ((w4.alloc (.cells #[.string ⟨kn.text.toArray⟩, .int .i64 d.kind, .slice A5 d.args.length k5, .string ⟨km.text.toArray⟩, .int .i64 a.kind, .slice Aa a.args.length ka] 160)).drew).heap.size ∨ w7.heap.size ≤ w7.heap.size := by omega
         have hTB : w4.heap.size ≤ w7.heap.size := by omega
         have far : ∀ b, b < w7.heap.size → b ≠ w7.heap.size → (w7.alloc (.cells #[(.int .i64 u.kind), (.slice A9 u.args.length k9)] 34)).heap[b]? = w7.heap[b]? := fun b hb hne => by
          exact Below.heap_alloc w7 _ b hb
         have sF : w7.heap.size ≤ (w7.alloc (.cells #[(.int .i64 u.kind), (.slice A9 u.args.length k9)] 34)).heap.size := by simp [World.setCell]
         have hEC := ec_end HW.out HWS4.out HO4.out n14 hBz HWI7.out HWS7.out hTB hTz far sF ⟨rfl, rfl, rfl⟩ HN4.out HR4.out
         have hBU := box_u (BK := w4.heap.size) (fun k hk => (HW.out.sep k hk).1) (fun g hg => (HO4.out g hg).1) n14 hBz.size HWI7.out HWS7.out hTB hTz (by omega) (by omega) (by omega) far sF (heap_alloc_new w7 _) HT7.out
         have hBT := box_q hWl HWI4.out n14 hBz HWS7.out hTB hTz far sF (B := q) (by omega) hqW.1 hqW.2.2 HQA.out HXQ.out HTd4.out
         exact ⟨w7.heap.size, AV7, rfl, rfl, hEC, hBU, hBT⟩)
      | error x =>
        obtain ⟨no, qs⟩ := x
        go_region_held3 (fun w' => w'.cell? ⟨w.heap.size, 0, none⟩ = some (.string ⟨n.op.toArray⟩) ∧ w'.cell? ⟨w.heap.size, 1, none⟩ = some (.int .i64 n.int) ∧ w'.cell? ⟨w.heap.size, 2, none⟩ = some (.string ⟨n.text.toArray⟩) ∧ w'.cell? ⟨w.heap.size, 3, none⟩ = some (.int .i64 n.ty.kind) ∧ w'.cell? ⟨w.heap.size, 4, none⟩ = some (.slice A n.ty.args.length c) ∧ w'.cell? ⟨w.heap.size, 5, none⟩ = some (.slice (some ⟨kb, ko, none⟩) n.kids.length k) ∧ w'.cell? ⟨kb, ko + 14, none⟩ = some (.string ⟨kn.text.toArray⟩) ∧ w'.cell? ⟨kb, ko + 20, none⟩ = some (.string ⟨km.text.toArray⟩) ∧ w'.cell? ⟨p, 1, none⟩ = some (.slice (some ⟨ab, ao, none⟩) t.args.length k6) ∧ w'.cell? ⟨q, 0, none⟩ = some (.int .i64 d.kind) ∧ w'.cell? ⟨q, 1, none⟩ = some (.slice A5 d.args.length k5) ∧ w'.cell? ⟨ab, ao, none⟩ = some (.int .i64 a.kind) ∧ w'.cell? ⟨ab, ao + 1, none⟩ = some (.slice Aa a.args.length ka))
         (((refine ⟨?_, ?_, ?_, ?_, ?_, ?_, ?_, ?_, ?_, ?_, ?_, ?_, ?_⟩ <;> (repeat' (first | with_reducible assumption | with_reducible refine zX ?_ | with_reducible refine cell_alloc2 ?_ ?_ | with_reducible refine cell_set_some ?_ ?_ | omega | (show _ < w4.heap.size; omega) | (simp only [World.size_alloc]; omega) | (dsimp only; omega))))))
         (first
         | (go_at_call 94; (with_reducible refine HC1.out.mono ?_); rintro e w7 ⟨hno, AV7, rfl, hWI7, hWS7⟩; have HNO := Lib.hid hno; clear hno; have HWI7 := Lib.hid hWI7; have HWS7 := Lib.hid hWS7; have hF := HFAR.out _ w7 AV7 HZ1.out.1 hWS7; have tb := (hWS7.block (w4.heap.size) (by rw [HZ1.out.2.2]; omega) (by omega) (fun e => by have := (HO4.out _ e.symm).1; omega)).trans HZ1.out.2.1; have tb0 := zD (i := 0) tb rfl; have tb1 := zD (i := 1) tb rfl; have tf0 := zI (i := 0) tb; have tf1 := zI (i := 1) tb; have HTB1 := Lib.hid tb; have hl1 := zC tb; clear tb; clear hWI7 hWS7; have m0 : w7.cell? ⟨w.heap.size, 0, none⟩ = some (.string ⟨n.op.toArray⟩) := (World.cell?_of_block (hF.1 w.heap.size (by omega) (by omega) HNA.out)).trans n0; have m1 : w7.cell? ⟨w.heap.size, 1, none⟩ = some (.int .i64 n.int) := (World.cell?_of_block (hF.1 w.heap.size (by omega) (by omega) HNA.out)).trans n1; have m2 : w7.cell? ⟨w.heap.size, 2, none⟩ = some (.string ⟨n.text.toArray⟩) := (World.cell?_of_block (hF.1 w.heap.size (by omega) (by omega) HNA.out)).trans n2; have m3 : w7.cell? ⟨w.heap.size, 3, none⟩ = some (.int .i64 n.ty.kind) := (World.cell?_of_block (hF.1 w.heap.size (by omega) (by omega) HNA.out)).trans n3; have m4 : w7.cell? ⟨w.heap.size, 4, none⟩ = some (.slice A n.ty.args.length c) := (World.cell?_of_block (hF.1 w.heap.size (by omega) (by omega) HNA.out)).trans n4; have m5 : w7.cell? ⟨w.heap.size, 5, none⟩ = some (.slice (some ⟨kb, ko, none⟩) n.kids.length k) := (World.cell?_of_block (hF.1 w.heap.size (by omega) (by omega) HNA.out)).trans n5; have m6 : w7.cell? ⟨kb, ko + 14, none⟩ = some (.string ⟨kn.text.toArray⟩) := (World.cell?_of_block (hF.1 kb (by omega) hkbW HKA.out)).trans k2; have m7 : w7.cell? ⟨kb, ko + 20, none⟩ = some (.string ⟨km.text.toArray⟩) := (World.cell?_of_block (hF.1 kb (by omega) hkbW HKA.out)).trans k3; have m8 : w7.cell? ⟨p, 1, none⟩ = some (.slice (some ⟨ab, ao, none⟩) t.args.length k6) := (World.cell?_of_block (hF.1 p (by omega) hpW.1 HPA.out)).trans p1; have m9 : w7.cell? ⟨q, 0, none⟩ = some (.int .i64 d.kind) := (World.cell?_of_block (hF.1 q (by omega) hqW.1 HQA.out)).trans q0; have m10 : w7.cell? ⟨q, 1, none⟩ = some (.slice A5 d.args.length k5) := (World.cell?_of_block (hF.1 q (by omega) hqW.1 HQA.out)).trans q1; have m11 : w7.cell? ⟨ab, ao, none⟩ = some (.int .i64 a.kind) := (World.cell?_of_block (hF.1 ab (by omega) habW1 HAA.out)).trans ha0; have m12 : w7.cell? ⟨ab, ao + 1, none⟩ = some (.slice Aa a.args.length ka) := (World.cell?_of_block (hF.1 ab (by omega) habW1 HAA.out)).trans ha1; have hs7 := hF.2; clear hF)
         | (go_at_call 94; (with_reducible refine HC2.out.mono ?_); rintro e w7 ⟨hno, AV7, rfl, hWI7, hWS7⟩; have HNO := Lib.hid hno; clear hno; have HWI7 := Lib.hid hWI7; have HWS7 := Lib.hid hWS7; have hF := HFAR.out _ w7 AV7 HZ2.out.1 hWS7; have tb := (hWS7.block (w4.heap.size + 1) (by rw [HZ2.out.2.2]; omega) (by omega) (fun e => by have := (HO4.out _ e.symm).1; omega)).trans HZ2.out.2.1; have tb0 := zD (i := 0) tb rfl; have tb1 := zD (i := 1) tb rfl; have tf0 := zI (i := 0) tb; have tf1 := zI (i := 1) tb; have HTB2 := Lib.hid tb; have hl2 := zC tb; clear tb; clear hWI7 hWS7; have m0 : w7.cell? ⟨w.heap.size, 0, none⟩ = some (.string ⟨n.op.toArray⟩) := (World.cell?_of_block (hF.1 w.heap.size (by omega) (by omega) HNA.out)).trans n0; have m1 : w7.cell? ⟨w.heap.size, 1, none⟩ = some (.int .i64 n.int) := (World.cell?_of_block (hF.1 w.heap.size (by omega) (by omega) HNA.out)).trans n1; have m2 : w7.cell? ⟨w.heap.size, 2, none⟩ = some (.string ⟨n.text.toArray⟩) := (World.cell?_of_block (hF.1 w.heap.size (by omega) (by omega) HNA.out)).trans n2; have m3 : w7.cell? ⟨w.heap.size, 3, none⟩ = some (.int .i64 n.ty.kind) := (World.cell?_of_block (hF.1 w.heap.size (by omega) (by omega) HNA.out)).trans n3; have m4 : w7.cell? ⟨w.heap.size, 4, none⟩ = some (.slice A n.ty.args.length c) := (World.cell?_of_block (hF.1 w.heap.size (by omega) (by omega) HNA.out)).trans n4; have m5 : w7.cell? ⟨w.heap.size, 5, none⟩ = some (.slice (some ⟨kb, ko, none⟩) n.kids.length k) := (World.cell?_of_block (hF.1 w.heap.size (by omega) (by omega) HNA.out)).trans n5; have m6 : w7.cell? ⟨kb, ko + 14, none⟩ = some (.string ⟨kn.text.toArray⟩) := (World.cell?_of_block (hF.1 kb (by omega) hkbW HKA.out)).trans k2; have m7 : w7.cell? ⟨kb, ko + 20, none⟩ = some (.string ⟨km.text.toArray⟩) := (World.cell?_of_block (hF.1 kb (by omega) hkbW HKA.out)).trans k3; have m8 : w7.cell? ⟨p, 1, none⟩ = some (.slice (some ⟨ab, ao, none⟩) t.args.length k6) := (World.cell?_of_block (hF.1 p (by omega) hpW.1 HPA.out)).trans p1; have m9 : w7.cell? ⟨q, 0, none⟩ = some (.int .i64 d.kind) := (World.cell?_of_block (hF.1 q (by omega) hqW.1 HQA.out)).trans q0; have m10 : w7.cell? ⟨q, 1, none⟩ = some (.slice A5 d.args.length k5) := (World.cell?_of_block (hF.1 q (by omega) hqW.1 HQA.out)).trans q1; have m11 : w7.cell? ⟨ab, ao, none⟩ = some (.int .i64 a.kind) := (World.cell?_of_block (hF.1 ab (by omega) habW1 HAA.out)).trans ha0; have m12 : w7.cell? ⟨ab, ao + 1, none⟩ = some (.slice Aa a.args.length ka) := (World.cell?_of_block (hF.1 ab (by omega) habW1 HAA.out)).trans ha1; have hs7 := hF.2; clear hF)
         | (go_at_call 94; (with_reducible refine HC3.out.mono ?_); rintro e w7 ⟨hno, AV7, rfl, hWI7, hWS7⟩; have HNO := Lib.hid hno; clear hno; have HWI7 := Lib.hid hWI7; have HWS7 := Lib.hid hWS7; have hF := HFAR.out _ w7 AV7 HZ3.out.1 hWS7; have HTB3 := Lib.hid True.intro; clear hWI7 hWS7; have m0 : w7.cell? ⟨w.heap.size, 0, none⟩ = some (.string ⟨n.op.toArray⟩) := (World.cell?_of_block (hF.1 w.heap.size (by omega) (by omega) HNA.out)).trans n0; have m1 : w7.cell? ⟨w.heap.size, 1, none⟩ = some (.int .i64 n.int) := (World.cell?_of_block (hF.1 w.heap.size (by omega) (by omega) HNA.out)).trans n1; have m2 : w7.cell? ⟨w.heap.size, 2, none⟩ = some (.string ⟨n.text.toArray⟩) := (World.cell?_of_block (hF.1 w.heap.size (by omega) (by omega) HNA.out)).trans n2; have m3 : w7.cell? ⟨w.heap.size, 3, none⟩ = some (.int .i64 n.ty.kind) := (World.cell?_of_block (hF.1 w.heap.size (by omega) (by omega) HNA.out)).trans n3; have m4 : w7.cell? ⟨w.heap.size, 4, none⟩ = some (.slice A n.ty.args.length c) := (World.cell?_of_block (hF.1 w.heap.size (by omega) (by omega) HNA.out)).trans n4; have m5 : w7.cell? ⟨w.heap.size, 5, none⟩ = some (.slice (some ⟨kb, ko, none⟩) n.kids.length k) := (World.cell?_of_block (hF.1 w.heap.size (by omega) (by omega) HNA.out)).trans n5; have m6 : w7.cell? ⟨kb, ko + 14, none⟩ = some (.string ⟨kn.text.toArray⟩) := (World.cell?_of_block (hF.1 kb (by omega) hkbW HKA.out)).trans k2; have m7 : w7.cell? ⟨kb, ko + 20, none⟩ = some (.string ⟨km.text.toArray⟩) := (World.cell?_of_block (hF.1 kb (by omega) hkbW HKA.out)).trans k3; have m8 : w7.cell? ⟨p, 1, none⟩ = some (.slice (some ⟨ab, ao, none⟩) t.args.length k6) := (World.cell?_of_block (hF.1 p (by omega) hpW.1 HPA.out)).trans p1; have m9 : w7.cell? ⟨q, 0, none⟩ = some (.int .i64 d.kind) := (World.cell?_of_block (hF.1 q (by omega) hqW.1 HQA.out)).trans q0; have m10 : w7.cell? ⟨q, 1, none⟩ = some (.slice A5 d.args.length k5) := (World.cell?_of_block (hF.1 q (by omega) hqW.1 HQA.out)).trans q1; have m11 : w7.cell? ⟨ab, ao, none⟩ = some (.int .i64 a.kind) := (World.cell?_of_block (hF.1 ab (by omega) habW1 HAA.out)).trans ha0; have m12 : w7.cell? ⟨ab, ao + 1, none⟩ = some (.slice Aa a.args.length ka) := (World.cell?_of_block (hF.1 ab (by omega) habW1 HAA.out)).trans ha1; have hs7 := hF.2; clear hF)
         | fail)
        all_goals go_wp2_with (fail)
        all_goals go_meet
        all_goals first
         | (
         have hmark := HTB1.out
         have hzs := HZ1.out.2.2
         have hBz := HZ1.out.1
         have hs7z := HWS7.out.size
         have hTz : w4.heap.size < (((w4.alloc (.cells #[.int .i64 0, .slice none 0 0] 34)).alloc (.cells #[.string ⟨kn.text.toArray⟩, .int .i64 d.kind, .slice A5 d.args.length k5, .string ⟨km.text.toArray⟩, .int .i64 a.kind, .slice Aa a.args.length ka] 160)).drew).heap.size ∨ w7.heap.size ≤ w4.heap.size := by omega
         have hTB : w4.heap.size ≤ w4.heap.size := by omega
         have far : ∀ b, b < w7.heap.size → b ≠ w4.heap.size → ((w7.setCell ⟨w4.heap.size, 0, none⟩ (.int .i64 0)).setCell ⟨w4.heap.size, 1, none⟩ (.slice none 0 0)).heap[b]? = w7.heap[b]? := fun b hb hne => by
          rw [Below.heap_setCell _ _ _ _ (by show b ≠ w4.heap.size; exact hne), Below.heap_setCell _ _ _ _ (by show b ≠ w4.heap.size; exact hne)]
         have sF : w7.heap.size ≤ ((w7.setCell ⟨w4.heap.size, 0, none⟩ (.int .i64 0)).setCell ⟨w4.heap.size, 1, none⟩ (.slice none 0 0)).heap.size := by simp [World.setCell]
         have hEC := ec_end HW.out HWS4.out HO4.out n14 hBz HWI7.out HWS7.out hTB hTz far sF ⟨rfl, rfl, rfl⟩ HN4.out HR4.out
         exact ⟨w4.heap.size, AV7, rfl, HNO.out, rfl, hEC⟩)
         | (
         have hmark := HTB2.out
         have hzs := HZ2.out.2.2
         have hBz := HZ2.out.1
         have hs7z := HWS7.out.size
         have hTz : w4.heap.size + 1 < (((w4.alloc (.cells #[.string ⟨kn.text.toArray⟩, .int .i64 d.kind, .slice A5 d.args.length k5, .string ⟨km.text.toArray⟩, .int .i64 a.kind, .slice Aa a.args.length ka] 160)).alloc (.cells #[.int .i64 0, .slice none 0 0] 34)).drew).heap.size ∨ w7.heap.size ≤ w4.heap.size + 1 := by omega
         have hTB : w4.heap.size ≤ w4.heap.size + 1 := by omega
         have far : ∀ b, b < w7.heap.size → b ≠ w4.heap.size + 1 → ((w7.setCell ⟨w4.heap.size + 1, 0, none⟩ (.int .i64 0)).setCell ⟨w4.heap.size + 1, 1, none⟩ (.slice none 0 0)).heap[b]? = w7.heap[b]? := fun b hb hne => by
          rw [Below.heap_setCell _ _ _ _ (by show b ≠ w4.heap.size + 1; exact hne), Below.heap_setCell _ _ _ _ (by show b ≠ w4.heap.size + 1; exact hne)]
         have sF : w7.heap.size ≤ ((w7.setCell ⟨w4.heap.size + 1, 0, none⟩ (.int .i64 0)).setCell ⟨w4.heap.size + 1, 1, none⟩ (.slice none 0 0)).heap.size := by simp [World.setCell]
         have hEC := ec_end HW.out HWS4.out HO4.out n14 hBz HWI7.out HWS7.out hTB hTz far sF ⟨rfl, rfl, rfl⟩ HN4.out HR4.out
         exact ⟨w4.heap.size + 1, AV7, rfl, HNO.out, rfl, hEC⟩)
         | (
         have hmark := HTB3.out
         have hzs := HZ3.out.2
         have hBz := HZ3.out.1
         have hs7z := HWS7.out.size
         have hTz : w7.heap.size < ((w4.alloc (.cells #[.string ⟨kn.text.toArray⟩, .int .i64 d.kind, .slice A5 d.args.length k5, .string ⟨km.text.toArray⟩, .int .i64 a.kind, .slice Aa a.args.length ka] 160)).drew).heap.size ∨ w7.heap.size ≤ w7.heap.size := by omega
         have hTB : w4.heap.size ≤ w7.heap.size := by omega
         have far : ∀ b, b < w7.heap.size → b ≠ w7.heap.size → (w7.alloc (.cells #[(.int .i64 0), (.slice none 0 0)] 34)).heap[b]? = w7.heap[b]? := fun b hb hne => by
          exact Below.heap_alloc w7 _ b hb
         have sF : w7.heap.size ≤ (w7.alloc (.cells #[(.int .i64 0), (.slice none 0 0)] 34)).heap.size := by simp [World.setCell]
         have hEC := ec_end HW.out HWS4.out HO4.out n14 hBz HWI7.out HWS7.out hTB hTz far sF ⟨rfl, rfl, rfl⟩ HN4.out HR4.out
         exact ⟨w7.heap.size, AV7, rfl, HNO.out, rfl, hEC⟩)
     have HEV : Hid (foldR ps (yC f 2 0) r2 = foldE ps d r) := Lib.hid (by rw [HRD.out, if_pos H7.out, HEA.out, ← HR2.out])
     clear k2 k3 ha0 ha1 n0 n1 n2 n3 n4 n5 p0 p1 q0 q1
     cases r with
     | error x =>
       obtain ⟨no, qs⟩ := x
       obtain ⟨TB, AV7, rfl, hno, rfl, hEC⟩ := hcut
       have HEC := Lib.hid hEC
       have hno' : (no == 0) = false := by simp [hno]
       have x0 := zD (i := 0) hEC.rbox rfl
       have x1 := zD (i := 1) hEC.rbox rfl
       have xf0 := zI (i := 0) hEC.rbox
       have xf1 := zI (i := 1) hEC.rbox
       clear hEC
       go_wp2_with (fail)
       refine bodyPost_ret (v := .tuple #[.agg #[.int .i64 0, .slice none 0 0], .int .i64 no]) (by simp [results, Tryz.results60, go_sem, x0, x1]) rfl ?_
       rw [show foldR ps (yC f 2 0) r2 = .error (no, qs) from HEV.out]
       refine kid_err HW.out HEC.out.walk HEC.out.step hno HEC.out.own (fun b hb hn1 => ?_) (by simp [World.setCell]) ⟨rfl, rfl, rfl⟩
       rw [Below.heap_setCell _ _ _ _ (by show b ≠ w.heap.size + 1; exact hn1), Below.heap_setCell _ _ _ _ (by show b ≠ w.heap.size + 1; exact hn1)]
     | ok u =>
       obtain ⟨TB, AV7, rfl, rfl, hEC, ⟨A9, k9, d9, hbu, hneR, hTu⟩, ⟨A8, k8, d8, hbt, _, hTt⟩⟩ := hcut
       have HEC := Lib.hid hEC
       have HRB := Lib.hid hEC.rbox
       have hRl := zC hEC.rbox
       have u0 := zD (i := 0) hbu rfl
       have u1 := zD (i := 1) hbu rfl
       have t0 := zD (i := 0) hbt rfl
       have t1 := zD (i := 1) hbt rfl
       have HTu := Lib.hid hTu
       have HTt := Lib.hid hTt
       have HBT := Lib.hid hbt
       have hBl := zC hbt
       clear hEC hbu hTu hbt hTt
       go_wp2_with (fail)
       refine (Knd.same_any d9 d8 _ _ _ _ u d wc HTu.out HTt.out HEC.out.walk.glob).mono ?_
       rintro e w6 ⟨rfl, hb6⟩
       have HB6 := Lib.hid hb6
       have hs6 := hb6.size
       have hr6 := (hb6.block (w.heap.size + 1) hRl).trans HRB.out
       have hb6q := (hb6.block q hBl).trans HBT.out
       have y0 := zD (i := 0) hr6 rfl
       have y1 := zD (i := 1) hr6 rfl
       have yf0 := zI (i := 0) hr6
       have yf1 := zI (i := 1) hr6
       have z0 := zD (i := 0) hb6q rfl
       have z1 := zD (i := 1) hb6q rfl
       have HW6 := Lib.hid (HEC.out.walk.low_ hb6)
       have HST6 := Lib.hid (HEC.out.step.trans (WkS.of_below (W := W) (AV := AV7) hb6))
       have HTv := Lib.hid (HTt.out.below hb6)
       clear hr6 hb6q hb6 u0 u1 t0 t1
       cases hM : Knd.sameT u d with
       | false =>
         have HMM := Lib.hid hM
         clear hM
         go_wp2_with (fail)
         refine bodyPost_ret (v := .tuple #[.agg #[.int .i64 0, .slice none 0 0], .int .i64 50]) (by simp [results, Tryz.results60, go_sem, y0, y1]) rfl ?_
         rw [show foldR ps (yC f 2 0) r2 = .error (50, ps) by rw [HEV.out]; simp [foldE, HMM.out]]
         refine kid_err HW.out HW6.out HST6.out (by decide) HEC.out.own (fun b hb hn1 => ?_) (by simp [World.setCell]) ⟨rfl, rfl, rfl⟩
         rw [Below.heap_setCell _ _ _ _ (by show b ≠ w.heap.size + 1; exact hn1), Below.heap_setCell _ _ _ _ (by show b ≠ w.heap.size + 1; exact hn1)]
       | true =>
         have HMM := Lib.hid hM
         clear hM
         go_wp2_with (fail)
         refine bodyPost_ret (v := .tuple #[.agg #[.int .i64 d.kind, .slice A8 d.args.length k8], .int .i64 0]) (by simp [results, Tryz.results60, go_sem, y0, y1]) rfl ?_
         rw [show foldR ps (yC f 2 0) r2 = .ok d by rw [HEV.out]; simp [foldE, HMM.out]]
         refine ret_ok HW.out HW6.out HST6.out HEC.out.own (fun b hb hn1 => ?_) (by simp [World.setCell]) ⟨rfl, rfl, rfl⟩ (HTv.out.move fun b hb hl => ⟨hb.imp id fun ⟨h1, h2, h3⟩ => ⟨h1, hl, h3⟩, fun _ => rfl⟩)
         rw [Below.heap_setCell _ _ _ _ (by show b ≠ w.heap.size + 1; exact hn1), Below.heap_setCell _ _ _ _ (by show b ≠ w.heap.size + 1; exact hn1)]
   · have h7' : (t.kind != 7) = true := by simp [h7]
     have x0 := zD (i := 0) HR4.out rfl
     have x1 := zD (i := 1) HR4.out rfl
     have xf0 := zI (i := 0) HR4.out
     have xf1 := zI (i := 1) HR4.out
     have H7 := Lib.hid h7
     clear h7
     go_wp2_with (fail)
     refine bodyPost_ret (v := .tuple #[.agg #[.int .i64 0, .slice none 0 0], .int .i64 50]) (by simp [results, Tryz.results60, go_sem, x0, x1]) rfl ?_
     rw [HRD.out, if_neg H7.out]
     refine kid_err HW.out HWI4.out HWS4.out (by decide) (fun g hg => by have := (HO4.out g hg).2; omega) (fun b hb hn1 => ?_) (by simp [World.setCell]) ⟨rfl, rfl, rfl⟩
     rw [Below.heap_setCell _ _ _ _ (by show b ≠ w.heap.size + 1; exact hn1), Below.heap_setCell _ _ _ _ (by show b ≠ w.heap.size + 1; exact hn1)]
