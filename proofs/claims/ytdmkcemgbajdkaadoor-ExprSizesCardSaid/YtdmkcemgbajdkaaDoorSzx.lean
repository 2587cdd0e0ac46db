/-
The walk of ExprSizes.
-/
import Derived.Test.YtdmkcemgbajdkaaDoorSzw
namespace Go.Proofs.YtdmkcemgbajdkaaDoor
open Go.RowKit

theorem sum_take {l : List Nd} {j : Nat} {a : Nd} (h : l[j]? = some a) : ((l.take (j + 1)).map cntW).sum = ((l.take j).map cntW).sum + cntW a := by
  rw [List.take_add_one, h]
  simp
theorem sum_le (l : List Nd) (j : Nat) : ((l.take j).map cntW).sum ≤ (l.map cntW).sum := by
  have : l.map cntW = (l.take j).map cntW ++ (l.drop j).map cntW := by rw [← List.map_append, List.take_append_drop]
  rw [this, List.sum_append]
  omega

set_option maxRecDepth 100000 in
set_option maxHeartbeats 4000000 in
theorem sizes_walk (d di : Nat) (v : Value) (n : Nd) (w : World) (hN : NdAt w (fun k => k < w.heap.size) d v n) (hI : IntN di n) (hG : Gl w) :
    Calls Tryd.prog 7 #[v] w fun e w' => e = .returned (.bool true) ∧ Below w.heap.size w w' := by
  cases d with
  | zero => exact hN.elim
  | succ d =>
  have hGl := hG.kd.lt
  have HG := Lib.hid hG
  have HI := Lib.hid hI
  have HN := Lib.hid hN
  have HAWK := Lib.hid (fun (W : World) (h : Below w.heap.size w W) => awake_any W (hG.below h hGl))
  obtain ⟨A, c, K, kc, rfl, _, hkc, hK⟩ := hN
  have HK := Lib.hid hK
  have hb0 := (Below.refl w.heap.size w).alloc (Nat.le_refl _) (.cells #[.string ⟨n.op.toArray⟩, .int .i64 n.int, .string ⟨n.text.toArray⟩, .int .i64 n.ty.kind, .slice A n.ty.args.length c, .slice K n.kids.length kc] 28)
  have HC0 := Lib.hid (heap_alloc_new w (.cells #[.string ⟨n.op.toArray⟩, .int .i64 n.int, .string ⟨n.text.toArray⟩, .int .i64 n.ty.kind, .slice A n.ty.args.length c, .slice K n.kids.length kc] 28))
  have hs0 : (w.alloc (.cells #[.string ⟨n.op.toArray⟩, .int .i64 n.int, .string ⟨n.text.toArray⟩, .int .i64 n.ty.kind, .slice A n.ty.args.length c, .slice K n.kids.length kc] 28)).heap.size = w.heap.size + 1 := by simp
  have HB0 := Lib.hid hb0
  -- what lies below the first block is as it was
  have HNB := Lib.hid (fun (W : World) (h : Below w.heap.size w W) => NdAt.move (S' := fun k => k < w.heap.size) (fun b hb _ => ⟨hb, fun _ => World.cell?_of_block (h.block b hb)⟩) (d + 1) _ n HN.out)
  have hsm := small_any (d + 1) _ n (w.alloc (.cells #[.string ⟨n.op.toArray⟩, .int .i64 n.int, .string ⟨n.text.toArray⟩, .int .i64 n.ty.kind, .slice A n.ty.args.length c, .slice K n.kids.length kc] 28)) (NdAt.wider (HNB.out _ hb0) (fun b hb => by rw [hs0]; omega))
  have HSM := Lib.hid hsm
  clear hG hI hK hsm
  go_enter Tryd.func7, Tryd.ntmps7
  go_wp2_with (fail)
  refine HSM.out.mono ?_
  clear HSM
  generalize w.alloc (.cells #[.string ⟨n.op.toArray⟩, .int .i64 n.int, .string ⟨n.text.toArray⟩, .int .i64 n.ty.kind, .slice A n.ty.args.length c, .slice K n.kids.length kc] 28) = w0 at *
  rintro e w1 ⟨⟨b, rfl, hfew⟩, hb1⟩
  have HC1 := Lib.hid (below_at hb1 HC0.out)
  have HB1 := Lib.hid (hb0.trans (hb1.mono (by omega)))
  have hs1 := hb1.size
  clear hb1 HC0
  have d0 := cell6_0 HC1.out
  have d1 := cell6_1 HC1.out
  have d2 := cell6_2 HC1.out
  have d3 := cell6_3 HC1.out
  have d4 := cell6_4 HC1.out
  have d5 := cell6_5 HC1.out
  have dl := cell_lt HC1.out
  cases b with
  | false =>
    go_wp2_with (fail)
    refine (HAWK.out _ HB1.out).mono ?_
    rintro e wz ⟨rfl, hbz⟩
    go_wp2_with (fail)
    go_ret
    exact ⟨rfl, HB1.out.trans (hbz.mono (by omega))⟩
  | true =>
  have HFEW := Lib.hid (hfew rfl)
  have HR : Hid (RgN 24 n) := few_rg 24 di 60 n HI.out HFEW.out
  have hkl : n.kids.length ≤ 5000 := HFEW.out.2.2.2.1
  have HRK : Hid (∀ k ∈ n.kids, RgN 24 k) := fun k hk => by
    have hF := HFEW.out.2.2.2.2 k hk
    cases di with
    | zero => exact HI.out.elim
    | succ di => exact few_rg 24 di 59 k (HI.out.2.2 k hk) hF
  clear hfew
  have HCK := Lib.hid (exprCheck_any (d + 1) _ _ n w1 (HNB.out w1 HB1.out) HR.out (HG.out.below HB1.out hGl))
  go_wp2_with (fail)
  refine HCK.out.mono ?_
  clear HCK
  intro e w2 h2
  obtain ⟨h2, hb2⟩ := h2
  have HC2 := Lib.hid (below_at hb2 HC1.out)
  have HB2 := Lib.hid (HB1.out.trans (hb2.mono (by omega)))
  have hs2 := hb2.size
  clear hb2 d0 d1 d2 d3 d4 d5 dl HC1
  have d0 := cell6_0 HC2.out
  have d1 := cell6_1 HC2.out
  have d2 := cell6_2 HC2.out
  have d3 := cell6_3 HC2.out
  have d4 := cell6_4 HC2.out
  have d5 := cell6_5 HC2.out
  have dl := cell_lt HC2.out
  have HSZ := Lib.hid (exprSize_any (d + 1) _ _ n w2 (HNB.out w2 HB2.out) HR.out (HG.out.below HB2.out hGl))
  have HPU := Lib.hid (fun x (hx : showW n = some x) => sizes_pure hx)
  revert h2 HSZ HPU
  cases hq : showW n with
  | none =>
    intro h2 _ _
    obtain rfl : e = .returned (.int .i64 110) := h2
    clear hq
    go_wp2_with (fail)
    refine (HAWK.out _ HB2.out).mono ?_
    rintro e wz ⟨rfl, hbz⟩
    go_wp2_with (fail)
    go_ret
    exact ⟨rfl, HB2.out.trans (hbz.mono (by omega))⟩
  | some x =>
    intro h2 HSZ HPU
    obtain rfl : e = .returned (.int .i64 0) := h2
    clear hq
    obtain ⟨p1, p2, p3⟩ := HPU.out x rfl
    have HP1 := Lib.hid p1
    have HP2 := Lib.hid p2
    clear p1 p2 HPU
    go_wp2_with (fail)
    refine HSZ.out.mono ?_
    clear HSZ
    rintro e w3 ⟨h3, hb3⟩
    obtain rfl : e = .returned (.tuple #[.int .i64 (x.2 : Int), .int .i64 0]) := h3
    have HC3 := Lib.hid (below_at hb3 HC2.out)
    have HB3 := Lib.hid (HB2.out.trans (hb3.mono (by omega)))
    have hs3 := hb3.size
    clear hb3 d0 d1 d2 d3 d4 d5 dl HC2
    have d5 := cell6_5 HC3.out
    have dl := cell_lt HC3.out
    go_wp2_with (fail)
    have H1 : Hid ((1 : Int) = ((1 + ((n.kids.take 0).map cntW).sum : Nat) : Int)) := by show _ = _; simp
    go_loopw [5, 27] (fun sm iv wr => ∃ j : Nat, sm = .int .i64 ((1 + ((n.kids.take j).map cntW).sum : Nat) : Int) ∧ iv = .int .i64 (j : Int) ∧ j ≤ n.kids.length ∧ Hid (Below w.heap.size w wr)) (fun _ iv _ => n.kids.length - (intOf iv).toNat)
    case atStart => exact ⟨0, by rw [← H1.out], rfl, Nat.zero_le _, HB3⟩
    case round =>
      obtain ⟨j, rfl, rfl, hj, HBR⟩ := hrel
      have hsum : 1 + ((n.kids.take j).map cntW).sum ≤ x.2 := by rw [HP2.out]; have := sum_le n.kids j; omega
      have hsr := HBR.out.size
      by_cases hlt : j < n.kids.length
      · obtain ⟨b, o, rfl, hSb, hcells⟩ := HK.out (by omega)
        obtain ⟨a, ha⟩ : ∃ a, n.kids[j]? = some a := ⟨_, List.getElem?_eq_getElem hlt⟩
        obtain ⟨A', c', K', k', e0, e1, e2, e3, e4, e5, hnd, hbl⟩ := kid_cells hcells ha
        have c0 := (HBR.out.cell (p := ⟨b, o + j * 6, none⟩) hbl).trans e0
        have c1 := (HBR.out.cell (p := ⟨b, o + j * 6 + 1, none⟩) hbl).trans e1
        have c2 := (HBR.out.cell (p := ⟨b, o + j * 6 + 2, none⟩) hbl).trans e2
        have c3 := (HBR.out.cell (p := ⟨b, o + j * 6 + 3, none⟩) hbl).trans e3
        have c4 := (HBR.out.cell (p := ⟨b, o + j * 6 + 4, none⟩) hbl).trans e4
        have c5 := (HBR.out.cell (p := ⟨b, o + j * 6 + 5, none⟩) hbl).trans e5
        have hjl : ((j : Int) < (n.kids.length : Int)) := by omega
        have hba := (Below.refl wr.heap.size wr).alloc (Nat.le_refl _) (.cells #[.string ⟨a.op.toArray⟩, .int .i64 a.int, .string ⟨a.text.toArray⟩, .int .i64 a.ty.kind, .slice A' a.ty.args.length c', .slice K' a.kids.length k'] 28)
        have HB5 := Lib.hid (HBR.out.trans (hba.mono hsr))
        have hs5 : (wr.alloc (.cells #[.string ⟨a.op.toArray⟩, .int .i64 a.int, .string ⟨a.text.toArray⟩, .int .i64 a.ty.kind, .slice A' a.ty.args.length c', .slice K' a.kids.length k'] 28)).heap.size = wr.heap.size + 1 := by simp
        have hND : NdAt (wr.alloc (.cells #[.string ⟨a.op.toArray⟩, .int .i64 a.int, .string ⟨a.text.toArray⟩, .int .i64 a.ty.kind, .slice A' a.ty.args.length c', .slice K' a.kids.length k'] 28)) (fun k => k < w.heap.size) d (.agg #[.string ⟨a.op.toArray⟩, .int .i64 a.int, .string ⟨a.text.toArray⟩, .int .i64 a.ty.kind, .slice A' a.ty.args.length c', .slice K' a.kids.length k']) a := NdAt.move (fun b hb _ => ⟨hb, fun _ => World.cell?_of_block (HB5.out.block b hb)⟩) d _ _ hnd
        have ham := List.mem_of_getElem? ha
        have hsz := exprSize_any d _ _ a _ hND (HRK.out a ham) (HG.out.below HB5.out hGl)
        obtain ⟨y, hy⟩ := Option.isSome_iff_exists.1 (HP1.out a ham)
        have hya : cntW a = y.2 := by unfold cntW; rw [hy]; rfl
        rw [hy] at hsz
        have HSZ := Lib.hid hsz
        have hst := sum_take ha
        have hs2 : 1 + ((n.kids.take (j + 1)).map cntW).sum ≤ x.2 := by rw [HP2.out]; have := sum_le n.kids (j + 1); omega
        have HST : Hid (((1 + ((n.kids.take j).map cntW).sum : Nat) : Int) + (y.2 : Int) = ((1 + ((n.kids.take (j + 1)).map cntW).sum : Nat) : Int)) := by show _ = _; rw [hst, hya]; omega
        have hs3 : (1 + ((n.kids.take j).map cntW).sum) + y.2 ≤ x.2 := by rw [hst, hya] at hs2; omega
        clear hs2
        generalize 1 + ((n.kids.take j).map cntW).sum = sm at *
        clear e0 e1 e2 e3 e4 e5 hnd hcells ha hba hND hsz hy hya hst ham
        go_wp2_with (fail)
        refine HSZ.out.mono ?_
        clear HSZ
        rintro e w5 ⟨h5, hb5⟩
        obtain rfl : e = .returned (.tuple #[.int .i64 (y.2 : Int), .int .i64 0]) := h5
        have HB6 := Lib.hid (HB5.out.trans (hb5.mono (by omega)))
        clear hb5 c0 c1 c2 c3 c4 c5
        go_wp2_with (fail)
        go_roundw
        case rel => exact ⟨j + 1, by rw [← HST.out], by go_num, by omega, HB6⟩
        case measure => simp [intOf]; omega
      · have hje : j = n.kids.length := by omega
        have hjl : ¬ ((j : Int) < (n.kids.length : Int)) := by omega
        have hxe : (x.2 : Int) = ((1 + ((n.kids.take j).map cntW).sum : Nat) : Int) := by rw [HP2.out, hje, List.take_length]
        rw [← hxe]
        clear hxe hsum
        go_wp2_with (fail)
        refine (HAWK.out _ HBR.out).mono ?_
        rintro e wz ⟨rfl, hbz⟩
        go_wp2_with (fail)
        go_ret
        exact ⟨rfl, HBR.out.trans (hbz.mono (by omega))⟩
end Go.Proofs.YtdmkcemgbajdkaaDoor
