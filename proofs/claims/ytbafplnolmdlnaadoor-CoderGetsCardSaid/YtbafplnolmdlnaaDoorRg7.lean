/-
The document's answer: Get, of pairs.
-/
import Derived.Test.YtbafplnolmdlnaaDoorRgh
namespace Go.Proofs.YtbafplnolmdlnaaDoor
open Go.RowKit

/-- The rest of a pair. -/
def prOn (f0 f1 : Nat → Nat → Nat × Option (Val × Nat)) : List Val → Nat → Nat → Nat × Option (List Val × Nat)
  | [], m, sz => getP f0 f1 m sz
  | [V0], m, sz => match f1 m sz with
    | (m2, none) => (m2, none)
    | (m2, some (V1, s2)) => (m2, some ([V0, V1], s2))
  | l, m, sz => (m, some (l, sz))
theorem prOn_two {f0 f1 : Nat → Nat → Nat × Option (Val × Nat)} {acc : List Val} {m sz : Nat} (h : acc.length = 2) : prOn f0 f1 acc m sz = (m, some (acc, sz)) := by
  match acc, h with
  | [_, _], _ => rfl
theorem prOn_step {f0 f1 f : Nat → Nat → Nat × Option (Val × Nat)} {acc : List Val} {m sz : Nat} (h : (acc.length = 0 ∧ f = f0) ∨ (acc.length = 1 ∧ f = f1)) : prOn f0 f1 acc m sz = (match f m sz with
    | (m', none) => (m', none)
    | (m', some (V, s)) => prOn f0 f1 (acc ++ [V]) m' s) := by
  rcases h with ⟨h, rfl⟩ | ⟨h, rfl⟩
  · match acc, h with
    | [], _ =>
      simp only [prOn, getP]
      cases f m sz with
      | mk m' o => cases o <;> rfl
  · match acc, h with
    | [V0], _ =>
      simp only [prOn]
      cases f m sz with
      | mk m' o => cases o <;> rfl

set_option maxRecDepth 100000 in
set_option maxHeartbeats 4000000 in
theorem get_pair (r d qa qb : Nat) (S SB : Nat → Prop) (Q : Nat) (A : Option Addr) (c : Nat) (l : List UInt8) (m0 sz0 : Nat) (a0 a1 : Ty) (b o c0 k0 k1 : Nat) (B0 B1 : Option Addr) (w : World) (hV : GOk r) (hr6 : r ≤ 6) (h0 : measureT r a0 = some qa) (h1 : measureT r a1 = some qb) (hbl : b < w.heap.size) (hbQ : b ≠ Q)
    (g0 : w.cell? ⟨b, o, none⟩ = some (.int .i64 a0.kind)) (g1 : w.cell? ⟨b, o + 1, none⟩ = some (.slice B0 a0.args.length k0)) (g2 : w.cell? ⟨b, o + 2, none⟩ = some (.int .i64 a1.kind)) (g3 : w.cell? ⟨b, o + 3, none⟩ = some (.slice B1 a1.args.length k1))
    (T0 : TyAt w S d (.agg #[.int .i64 a0.kind, .slice B0 a0.args.length k0]) a0) (T1 : TyAt w S d (.agg #[.int .i64 a1.kind, .slice B1 a1.args.length k1]) a1) (hS : ∀ b, S b → b ≠ Q) (hB : BAt w SB A l) (hSB : ∀ b, SB b → b ≠ Q) (hlen : l.length ≤ 1000000) (hm0 : m0 ≤ l.length) (hsz0 : sz0 ≤ 2000) (hQ : w.heap[Q]? = some (.cells #[.int .i64 (sz0 : Int)] 3 (0, 0))) :
    Calls Tryd.prog 24 #[.agg #[.int .i64 6, .slice (some ⟨b, o, none⟩) 2 c0], .slice A l.length c, .int .i64 (m0 : Int), .pointer (some ⟨Q, 0, none⟩)] w fun e w' => GgOut Q l (r + 1) w e w' (listV 6 (getP (getV r a0 l) (getV r a1 l) m0 sz0)) := by
  obtain ⟨i0, hi, hq0, hq1, hq2⟩ := info_parts info32
  have HV := Lib.hid hV
  have H0 := Lib.hid h0
  have H1 := Lib.hid h1
  have HS := Lib.hid hS
  have HSB := Lib.hid hSB
  have hQl := cell_lt hQ
  have HQ := Lib.hid hQ
  have HB := Lib.hid hB
  have HT0 := Lib.hid T0
  have HT1 := Lib.hid T1
  have HBD := Lib.hid (getV_bd l r)
  have G0 := Lib.hid g0
  have G1 := Lib.hid g1
  have G2 := Lib.hid g2
  have G3 := Lib.hid g3
  have hb3 := (((Below.refl w.heap.size w).alloc (Nat.le_refl _) (.cells #[.int .i64 6, .slice (some ⟨b, o, none⟩) 2 c0] 24)).alloc (by simp) (.cells #[.int .i64 0, .int .i64 0, .string ⟨#[]⟩, .complex .f64 0 0, .slice none 0 0] 32)).alloc (by simp; omega) (.cells #[.int .i64 6, .int .i64 0, .string ⟨#[]⟩, .complex .f64 0 0, .slice none 0 0] 32)
  have hx0 : (((w.alloc (.cells #[.int .i64 6, .slice (some ⟨b, o, none⟩) 2 c0] 24)).alloc (.cells #[.int .i64 0, .int .i64 0, .string ⟨#[]⟩, .complex .f64 0 0, .slice none 0 0] 32)).alloc (.cells #[.int .i64 6, .int .i64 0, .string ⟨#[]⟩, .complex .f64 0 0, .slice none 0 0] 32)).heap[w.heap.size]? = some (.cells #[.int .i64 6, .slice (some ⟨b, o, none⟩) 2 c0] 24 (0, 0)) := heap_alloc_some (heap_alloc_some (heap_alloc_new w _))
  have hx1 : (((w.alloc (.cells #[.int .i64 6, .slice (some ⟨b, o, none⟩) 2 c0] 24)).alloc (.cells #[.int .i64 0, .int .i64 0, .string ⟨#[]⟩, .complex .f64 0 0, .slice none 0 0] 32)).alloc (.cells #[.int .i64 6, .int .i64 0, .string ⟨#[]⟩, .complex .f64 0 0, .slice none 0 0] 32)).heap[w.heap.size + 1]? = some (.cells #[.int .i64 0, .int .i64 0, .string ⟨#[]⟩, .complex .f64 0 0, .slice none 0 0] 32 (0, 0)) := heap_alloc_some (heap_new_at (by simp))
  have hx2 : (((w.alloc (.cells #[.int .i64 6, .slice (some ⟨b, o, none⟩) 2 c0] 24)).alloc (.cells #[.int .i64 0, .int .i64 0, .string ⟨#[]⟩, .complex .f64 0 0, .slice none 0 0] 32)).alloc (.cells #[.int .i64 6, .int .i64 0, .string ⟨#[]⟩, .complex .f64 0 0, .slice none 0 0] 32)).heap[w.heap.size + 2]? = some (.cells #[.int .i64 6, .int .i64 0, .string ⟨#[]⟩, .complex .f64 0 0, .slice none 0 0] 32 (0, 0)) := heap_new_at (by simp)
  have HX0 := Lib.hid hx0
  have HX1 := Lib.hid hx1
  have HX2 := Lib.hid hx2
  clear hV h0 h1 hS hSB hQ hB T0 T1 g0 g1 g2 g3 hx0 hx1 hx2
  go_enter Tryd.func24, Tryd.ntmps24
  go_wp2_with (fail)
  obtain ⟨w0, hw0⟩ : ∃ w0, w0 = (((w.alloc (.cells #[.int .i64 6, .slice (some ⟨b, o, none⟩) 2 c0] 24)).alloc (.cells #[.int .i64 0, .int .i64 0, .string ⟨#[]⟩, .complex .f64 0 0, .slice none 0 0] 32)).alloc (.cells #[.int .i64 6, .int .i64 0, .string ⟨#[]⟩, .complex .f64 0 0, .slice none 0 0] 32)) := ⟨_, rfl⟩
  have hs0 : w0.heap.size = w.heap.size + 3 := by rw [hw0]; simp
  rw [← hw0] at hb3 HX0 HX1 HX2
  rw [← hw0]
  clear hw0
  go_loopw [2, 16] (fun av kv wr => ∃ (acc : List Val) (m sz : Nat) (vs : Value) (cs : List Value), av = .int .i64 (m : Int) ∧ kv = .int .i64 (acc.length : Int) ∧ m ≤ l.length ∧ acc.length ≤ 2 ∧ sz ≤ 2000 ∧ Hid (getP (getV r a0 l) (getV r a1 l) m0 sz0 = prOn (getV r a0 l) (getV r a1 l) acc m sz) ∧ Hid (GlI w Q sz 6 (some ⟨b, o, none⟩) 2 c0 r acc vs cs wr)) (fun _ kv _ => 10 - (intOf kv).toNat)
  case atStart => exact ⟨[], m0, sz0, .slice none 0 0, [], rfl, rfl, hm0, by simp, hsz0, Lib.hid rfl, Lib.hid ⟨World.ownsRow_nil _ _ _ _, Only.of_below hb3, (hb3.block Q hQl).trans HQ.out, HX0.out, HX1.out, HX2.out, fun i a ha => by simp at ha⟩⟩
  case round =>
    obtain ⟨acc, m, sz, vs, cs, rfl, rfl, hm, hacc, hsz, HE, HI⟩ := hrel
    obtain ⟨Av, cv, hvs⟩ := own_slice HI.out.own
    subst hvs
    have hO := HI.out.only
    have hsr := hO.size
    have d0 := cell5_0 HI.out.rbox
    have d1 := cell5_1 HI.out.rbox
    have d2 := cell5_2 HI.out.rbox
    have d3 := cell5_3 HI.out.rbox
    have d4 := cell5_4 HI.out.rbox
    have f0 := cell3_f HI.out.rbox 0
    have f1 := cell3_f HI.out.rbox 1
    have f2 := cell3_f HI.out.rbox 2
    have f3 := cell3_f HI.out.rbox 3
    have f4 := cell3_f HI.out.rbox 4
    have e0 := cell5_0 HI.out.vbox
    have e1 := cell5_1 HI.out.vbox
    have e2 := cell5_2 HI.out.vbox
    have e3 := cell5_3 HI.out.vbox
    have e4 := cell5_4 HI.out.vbox
    have b1 := cell2_1 HI.out.tbox
    have hl0 := cell_lt HI.out.tbox
    have hl1 := cell_lt HI.out.rbox
    have hl2 := cell_lt HI.out.vbox
    by_cases hk2 : acc.length = 2
    · have hlt : decide ((acc.length : Int) < 2) = false := by simp; omega
      have HF : Hid (listV 6 (getP (getV r a0 l) (getV r a1 l) m0 sz0) = (m, some (.mk 6 0 ⟨#[]⟩ 0 0 acc, sz))) := by
        show _ = _; rw [HE.out, prOn_two hk2]; rfl
      clear hk2
      go_wp2_with (fail)
      refine bodyPost_ret (v := .tuple #[.agg #[.int .i64 6, .int .i64 0, .string ⟨#[]⟩, .complex .f64 0 0, .slice Av acc.length cv], .int .i64 (m : Int), .int .i64 0]) (by simp [results, Tryd.results24, go_sem, d0, d1, d2, d3, d4, e0, e1, e2, e3, e4]) rfl ?_
      rw [HF.out]
      have hCN := HI.out.cnt
      refine gg_good (VAt.of_list 6 (HI.out.lat.move fun kb hkb _ => ⟨by have hb' : w.heap.size + 3 ≤ kb := hkb; show w.heap.size ≤ kb; omega, fun _ => World.cell?_of_block (set5_block' (b := kb) (g := w.heap.size + 1) (by have hb' : w.heap.size + 3 ≤ kb := hkb; omega))⟩)) rfl ?_ ?_
      · (repeat' (first | with_reducible assumption | with_reducible refine Only.drewN ?_ _ | with_reducible refine Only.more ?_ | with_reducible refine Only.far ?_ ?_ | (dsimp only; omega)))
      · (repeat' (first | with_reducible assumption | with_reducible refine heap_alloc_some ?_ | with_reducible refine heap_set_some ?_ ?_ | (dsimp only; omega)))
    · rcases (show acc.length = 0 ∨ acc.length = 1 by omega) with hk0 | hk0
      · have hkc : (acc.length : Int) = 0 := by omega
        have HST : Hid (getP (getV r a0 l) (getV r a1 l) m0 sz0 = (match getV r a0 l m sz with
            | (m', none) => (m', none)
            | (m', some (V, s)) => prOn (getV r a0 l) (getV r a1 l) (acc ++ [V]) m' s)) := by
          show _ = _; rw [HE.out, prOn_step (f := getV r a0 l) (.inl ⟨hk0, rfl⟩)]
        have HK := Lib.hid hk0
        have E0 := (World.cell?_of_block (a := ⟨b, o, none⟩) (hO.block b hbl (by simpa using hbQ))).trans G0.out
        have E1 := (World.cell?_of_block (a := ⟨b, o + 1, none⟩) (hO.block b hbl (by simpa using hbQ))).trans G1.out
        have HTd := Lib.hid (HT0.out.only HS.out hO)
        have HBd := Lib.hid (HB.out.move (w' := wr) (S' := SB) fun k hk hl => ⟨hk, fun _ => World.cell?_of_block (hO.block k hl (by simpa using HSB.out k hk))⟩)
        have HCALL := Lib.hid (HV.out d S SB qa Q A c l m sz _ a0 wr hr6 H0.out HTd.out HS.out HBd.out HSB.out hlen hm hsz HI.out.cnt)
        have hbd := HBD.out a0 m sz hm hsz
        have HVX := Lib.hid HI.out.vbox
        have HRX := Lib.hid HI.out.rbox
        have HTX := Lib.hid HI.out.tbox
        have hbr : b < wr.heap.size := by omega
        clear hk0 hk2 d0 d1 d2 d3 d4 f0 f1 f2 f3 f4 e0 e1 e2 e3 e4
        go_wp2_with (fail)
        refine HCALL.out.mono ?_
        clear E0 E1 b1
        cases hg : getV r a0 l m sz with
        | mk m' o' =>
        rw [hg] at hbd
        have hm' := hbd.1
        cases o' with
        | none =>
          have HF : Hid (listV 6 (getP (getV r a0 l) (getV r a1 l) m0 sz0) = (m', none)) := by
            show _ = _; rw [HST.out, hg]; rfl
          clear hg hbd
          rintro e w6 ⟨he, ho6⟩
          obtain rfl : e = .returned (.tuple #[.agg #[.int .i64 0, .int .i64 0, .string ⟨#[]⟩, .complex .f64 0 0, .slice none 0 0], .int .i64 (m' : Int), .int .i64 (errA l m')]) := he
          have hs6 := ho6.size
          have hy6 := (ho6.block (w.heap.size + 1) (by omega) (by simp; omega)).trans HRX.out
          have hne := errA_ne l m'
          have d0 := cell5_0 hy6
          have d1 := cell5_1 hy6
          have d2 := cell5_2 hy6
          have d3 := cell5_3 hy6
          have d4 := cell5_4 hy6
          have f0 := cell3_f hy6 0
          have f1 := cell3_f hy6 1
          have f2 := cell3_f hy6 2
          have f3 := cell3_f hy6 3
          have f4 := cell3_f hy6 4
          have hl6 := cell_lt hy6
          have hO6 : Only Q w w6 := hO.trans ho6
          have HYZ := Lib.hid hy6
          clear hy6
          go_wp2_with (fail)
          have HYP := put5_heap (b0 := .int .i64 0) (b1 := .int .i64 0) (b2 := .string ⟨#[]⟩) (b3 := .complex .f64 0 0) (b4 := .slice none 0 0) HYZ.out
          have HYA := heap_alloc_some (o := .cells #[.int .i64 0, .int .i64 0, .string ⟨#[]⟩, .complex .f64 0 0, .slice none 0 0] 32) HYP
          have x0 := cell5_0 HYA
          have x1 := cell5_1 HYA
          have x2 := cell5_2 HYA
          have x3 := cell5_3 HYA
          have x4 := cell5_4 HYA
          clear HYP HYA
          refine bodyPost_ret (v := .tuple #[.agg #[.int .i64 0, .int .i64 0, .string ⟨#[]⟩, .complex .f64 0 0, .slice none 0 0], .int .i64 (m' : Int), .int .i64 (errA l m')]) (by simp [results, Tryd.results24, go_sem, d0, d1, d2, d3, d4, x0, x1, x2, x3, x4]) rfl ?_
          rw [HF.out]
          refine gg_bad rfl rfl ?_
          (repeat' (first | with_reducible assumption | with_reducible refine Only.drewN ?_ _ | with_reducible refine Only.more ?_ | with_reducible refine Only.far ?_ ?_ | (dsimp only; omega)))
        | some p =>
          obtain ⟨V0, sz1⟩ := p
          obtain ⟨hsz1, _⟩ := hbd.2 V0 sz1 rfl
          have HF : Hid (getP (getV r a0 l) (getV r a1 l) m0 sz0 = prOn (getV r a0 l) (getV r a1 l) (acc ++ [V0]) m' sz1) := by
            show _ = _; rw [HST.out, hg]
          clear hg hbd
          rintro e w6 ⟨⟨v, hv, rfl⟩, ho6, hq6⟩
          obtain ⟨Aw, cw, xw, yw, rfl, _, _⟩ := hv.form
          have HVB := Lib.hid hv
          have hs6 := ho6.size
          have HO6 := Lib.hid ho6
          have HQ6 := Lib.hid hq6
          have HVX6 := Lib.hid ((ho6.block (w.heap.size + 2) (by omega) (by simp; omega)).trans HVX.out)
          have HTX6 := Lib.hid ((ho6.block w.heap.size (by omega) (by simp; omega)).trans HTX.out)
          have e4 := cell5_4 HVX6.out
          have k4f := cell3_f HVX6.out 4
          have hl26 := cell_lt HVX6.out
          have hown6 := HI.out.own.kept (row := some Q) HO6.out (.inr (fun e => by have := (HI.out.own.lt Q e).1; omega))
          have HOWN6 := Lib.hid hown6
          have HNV := Lib.hid (HI.out.own.lt)
          clear hv hown6 hq6 hkc
          go_wp2_with (at_builtin; refine wpList_append_own_at _ rfl _ _ 30 rfl (w.heap.size + 3) 32 i0 (.agg #[.int .i64 0, .int .i64 0, .string ⟨#[]⟩, .complex .f64 0 0, .slice none 0 0]) 5 72 Tryd.underlying30 hi hq0 hq1 hq2 rfl (by decide) _ acc.length cs rfl ((HOWN6.out.alloc _).alloc _) ⟨w6.heap.size + 1, 0, none⟩ 1 1 [.int .i64 V0.kind, .int .i64 V0.int, .string V0.text, .complex .f64 xw yw, .slice Aw V0.list.length cw] rfl rfl (cell_five_new _ _ _ _ _ _ _ _ (by simp)) (five_one _ _ _ _ _ _ _ _) (by unfold maxLen; omega) (by omega) (by simp; omega) ?_; intro v' w7 hown7 hgrow7 _ hat7; obtain ⟨A7, c7, rfl⟩ := own_slice hown7; have hk7 := low7 (n := w.heap.size + 3) hgrow7 (fun k hk => (HNV.out k hk).1); have hv7 := (hk7 (w.heap.size + 2) (by omega) hl26).trans HVX6.out; have e4' := cell5_4 hv7; have k4' := cell3_f hv7 4; have hs7 := hgrow7.size; have hl27 := cell_lt hv7; clear hk7 hv7; simp only [World.size_alloc] at hs7)
          have HNX := Lib.hid (GlI.next HI.out hQl HO6.out HQ6.out (HVB.out.wider fun kb hkb => by have hb' : wr.heap.size ≤ kb := hkb; omega) hgrow7 hown7 hat7)
          go_roundw
          case rel => exact ⟨acc ++ [V0], m', sz1, _, _, rfl, by rw [List.length_append, HK.out]; rfl, hm', by simp [HK.out], hsz1, HF, HNX⟩
          case measure => simp [intOf, HK.out]
      · have hkc : (acc.length : Int) = 1 := by omega
        have HST : Hid (getP (getV r a0 l) (getV r a1 l) m0 sz0 = (match getV r a1 l m sz with
            | (m', none) => (m', none)
            | (m', some (V, s)) => prOn (getV r a0 l) (getV r a1 l) (acc ++ [V]) m' s)) := by
          show _ = _; rw [HE.out, prOn_step (f := getV r a1 l) (.inr ⟨hk0, rfl⟩)]
        have HK := Lib.hid hk0
        have E0 := (World.cell?_of_block (a := ⟨b, o + 2, none⟩) (hO.block b hbl (by simpa using hbQ))).trans G2.out
        have E1 := (World.cell?_of_block (a := ⟨b, o + 3, none⟩) (hO.block b hbl (by simpa using hbQ))).trans G3.out
        have HTd := Lib.hid (HT1.out.only HS.out hO)
        have HBd := Lib.hid (HB.out.move (w' := wr) (S' := SB) fun k hk hl => ⟨hk, fun _ => World.cell?_of_block (hO.block k hl (by simpa using HSB.out k hk))⟩)
        have HCALL := Lib.hid (HV.out d S SB qb Q A c l m sz _ a1 wr hr6 H1.out HTd.out HS.out HBd.out HSB.out hlen hm hsz HI.out.cnt)
        have hbd := HBD.out a1 m sz hm hsz
        have HVX := Lib.hid HI.out.vbox
        have HRX := Lib.hid HI.out.rbox
        have HTX := Lib.hid HI.out.tbox
        have hbr : b < wr.heap.size := by omega
        clear hk0 hk2 d0 d1 d2 d3 d4 f0 f1 f2 f3 f4 e0 e1 e2 e3 e4
        go_wp2_with (fail)
        refine HCALL.out.mono ?_
        clear E0 E1 b1
        cases hg : getV r a1 l m sz with
        | mk m' o' =>
        rw [hg] at hbd
        have hm' := hbd.1
        cases o' with
        | none =>
          have HF : Hid (listV 6 (getP (getV r a0 l) (getV r a1 l) m0 sz0) = (m', none)) := by
            show _ = _; rw [HST.out, hg]; rfl
          clear hg hbd
          rintro e w6 ⟨he, ho6⟩
          obtain rfl : e = .returned (.tuple #[.agg #[.int .i64 0, .int .i64 0, .string ⟨#[]⟩, .complex .f64 0 0, .slice none 0 0], .int .i64 (m' : Int), .int .i64 (errA l m')]) := he
          have hs6 := ho6.size
          have hy6 := (ho6.block (w.heap.size + 1) (by omega) (by simp; omega)).trans HRX.out
          have hne := errA_ne l m'
          have d0 := cell5_0 hy6
          have d1 := cell5_1 hy6
          have d2 := cell5_2 hy6
          have d3 := cell5_3 hy6
          have d4 := cell5_4 hy6
          have f0 := cell3_f hy6 0
          have f1 := cell3_f hy6 1
          have f2 := cell3_f hy6 2
          have f3 := cell3_f hy6 3
          have f4 := cell3_f hy6 4
          have hl6 := cell_lt hy6
          have hO6 : Only Q w w6 := hO.trans ho6
          have HYZ := Lib.hid hy6
          clear hy6
          go_wp2_with (fail)
          have HYP := put5_heap (b0 := .int .i64 0) (b1 := .int .i64 0) (b2 := .string ⟨#[]⟩) (b3 := .complex .f64 0 0) (b4 := .slice none 0 0) HYZ.out
          have HYA := heap_alloc_some (o := .cells #[.int .i64 0, .int .i64 0, .string ⟨#[]⟩, .complex .f64 0 0, .slice none 0 0] 32) HYP
          have x0 := cell5_0 HYA
          have x1 := cell5_1 HYA
          have x2 := cell5_2 HYA
          have x3 := cell5_3 HYA
          have x4 := cell5_4 HYA
          clear HYP HYA
          refine bodyPost_ret (v := .tuple #[.agg #[.int .i64 0, .int .i64 0, .string ⟨#[]⟩, .complex .f64 0 0, .slice none 0 0], .int .i64 (m' : Int), .int .i64 (errA l m')]) (by simp [results, Tryd.results24, go_sem, d0, d1, d2, d3, d4, x0, x1, x2, x3, x4]) rfl ?_
          rw [HF.out]
          refine gg_bad rfl rfl ?_
          (repeat' (first | with_reducible assumption | with_reducible refine Only.drewN ?_ _ | with_reducible refine Only.more ?_ | with_reducible refine Only.far ?_ ?_ | (dsimp only; omega)))
        | some p =>
          obtain ⟨V0, sz1⟩ := p
          obtain ⟨hsz1, _⟩ := hbd.2 V0 sz1 rfl
          have HF : Hid (getP (getV r a0 l) (getV r a1 l) m0 sz0 = prOn (getV r a0 l) (getV r a1 l) (acc ++ [V0]) m' sz1) := by
            show _ = _; rw [HST.out, hg]
          clear hg hbd
          rintro e w6 ⟨⟨v, hv, rfl⟩, ho6, hq6⟩
          obtain ⟨Aw, cw, xw, yw, rfl, _, _⟩ := hv.form
          have HVB := Lib.hid hv
          have hs6 := ho6.size
          have HO6 := Lib.hid ho6
          have HQ6 := Lib.hid hq6
          have HVX6 := Lib.hid ((ho6.block (w.heap.size + 2) (by omega) (by simp; omega)).trans HVX.out)
          have HTX6 := Lib.hid ((ho6.block w.heap.size (by omega) (by simp; omega)).trans HTX.out)
          have e4 := cell5_4 HVX6.out
          have k4f := cell3_f HVX6.out 4
          have hl26 := cell_lt HVX6.out
          have hown6 := HI.out.own.kept (row := some Q) HO6.out (.inr (fun e => by have := (HI.out.own.lt Q e).1; omega))
          have HOWN6 := Lib.hid hown6
          have HNV := Lib.hid (HI.out.own.lt)
          clear hv hown6 hq6 hkc
          go_wp2_with (at_builtin; refine wpList_append_own_at _ rfl _ _ 30 rfl (w.heap.size + 3) 32 i0 (.agg #[.int .i64 0, .int .i64 0, .string ⟨#[]⟩, .complex .f64 0 0, .slice none 0 0]) 5 72 Tryd.underlying30 hi hq0 hq1 hq2 rfl (by decide) _ acc.length cs rfl ((HOWN6.out.alloc _).alloc _) ⟨w6.heap.size + 1, 0, none⟩ 1 1 [.int .i64 V0.kind, .int .i64 V0.int, .string V0.text, .complex .f64 xw yw, .slice Aw V0.list.length cw] rfl rfl (cell_five_new _ _ _ _ _ _ _ _ (by simp)) (five_one _ _ _ _ _ _ _ _) (by unfold maxLen; omega) (by omega) (by simp; omega) ?_; intro v' w7 hown7 hgrow7 _ hat7; obtain ⟨A7, c7, rfl⟩ := own_slice hown7; have hk7 := low7 (n := w.heap.size + 3) hgrow7 (fun k hk => (HNV.out k hk).1); have hv7 := (hk7 (w.heap.size + 2) (by omega) hl26).trans HVX6.out; have e4' := cell5_4 hv7; have k4' := cell3_f hv7 4; have hs7 := hgrow7.size; have hl27 := cell_lt hv7; clear hk7 hv7; simp only [World.size_alloc] at hs7)
          have HNX := Lib.hid (GlI.next HI.out hQl HO6.out HQ6.out (HVB.out.wider fun kb hkb => by have hb' : wr.heap.size ≤ kb := hkb; omega) hgrow7 hown7 hat7)
          go_roundw
          case rel => exact ⟨acc ++ [V0], m', sz1, _, _, rfl, by rw [List.length_append, HK.out]; rfl, hm', by simp [HK.out], hsz1, HF, HNX⟩
          case measure => simp [intOf, HK.out]
end Go.Proofs.YtbafplnolmdlnaaDoor
