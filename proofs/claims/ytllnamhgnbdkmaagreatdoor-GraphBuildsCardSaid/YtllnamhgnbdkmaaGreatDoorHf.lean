/-
Stage 11: the document's Same, of equal nodes. Stage 11: the document's Same, of equal nodes.
-/
import Derived.Test.YtllnamhgnbdkmaaGreatDoorRf
import Derived.Test.YtllnamhgnbdkmaaGreatDoorOf
import Derived.Test.YtllnamhgnbdkmaaGreatDoorRd
import Derived.Test.YtllnamhgnbdkmaaGreatDoorHe
set_option linter.unusedVariables false
set_option linter.unusedSimpArgs false
namespace Go.Proofs.YtllnamhgnbdkmaaGreatDoor
open Go.RowKit
set_option maxRecDepth 100000 in
set_option maxHeartbeats 1000000 in
theorem rsameI_any (w : World) (S S' : Nat → Prop) (av bv : Value) (l : List Int) (hA : IntsAt w S av l) (hB : IntsAt w S' bv l) (hl : l.length ≤ 1000000) :
    Calls Tryz.prog 51 #[av, bv] w fun e w' => e = .returned (.bool true) ∧ ∃ m, w' = w.drewN m := by
  obtain ⟨A, c, rfl⟩ := hA.form
  obtain ⟨B, k, rfl⟩ := hB.form
  have HA := Lib.hid hA
  have HB := Lib.hid hB
  clear hA hB
  go_enter Tryz.func51, Tryz.ntmps51
  go_wp2_with (fail)
  go_loopw [5] (fun iv wr => ∃ (j : Nat), iv = .int .i64 (j : Int) ∧ j ≤ l.length ∧ ∃ q, wr = w.drewN q) (fun iv _ => l.length - (intOf iv).toNat)
  case atStart => exact ⟨0, rfl, Nat.zero_le _, 0, rfl⟩
  case round =>
    obtain ⟨j, rfl, hj, q, rfl⟩ := hrel
    by_cases hlt : j < l.length
    · have hjl : (j : Int) < (l.length : Int) := by omega
      obtain ⟨b, o, rfl, hc, hbl, hS⟩ := HA.out.cell hlt
      obtain ⟨b2, o2, rfl, hc2, hbl2, hS2⟩ := HB.out.cell hlt
      generalize l[j] = x at *
      go_upto_region 6 with (fail)
      go_quiet (fail)
      go_wp2_with (fail)
      go_roundw
      case rel => exact ⟨j + 1, by go_num, by omega, _, rfl⟩
      case measure => simp [intOf]; omega
    · obtain rfl : j = l.length := by omega
      have hjl : ¬ ((l.length : Int) < (l.length : Int)) := by omega
      go_wp2_with (fail)
      go_ret
      exact ⟨rfl, _, rfl⟩
end Go.Proofs.YtllnamhgnbdkmaaGreatDoor
namespace Go.Proofs.YtllnamhgnbdkmaaGreatDoor
open Go.RowKit
def TwoAt (wr wx : World) (s6 s7 : Value) (xs ys : Array Value) : Prop := ∃ X Y, s6 = .pointer (some ⟨X, 0, none⟩) ∧ s7 = .pointer (some ⟨Y, 0, none⟩) ∧ wx.heap[X]? = some (.cells xs 51 (0, 0)) ∧ wx.heap[Y]? = some (.cells ys 51 (0, 0)) ∧ Below wr.heap.size wr wx
theorem Tryz.eqSpRn (w : World) (a b c a' b' c' : Int) (d d' : Bool) : (binOp .neq 49 (.agg #[.int .i64 a, .int .i64 b, .int .i64 c, .bool d]) (.agg #[.int .i64 a', .int .i64 b', .int .i64 c', .bool d'])).run Tryz.prog w = .ok (.bool (!(a == a' && b == b' && c == c' && d == d'))) w := by
  rw [run_neq_struct, eq4b 49 (by kernel_rfl) (by kernel_rfl) "Early" "Late" "Lateness" "Accumulate" (by kernel_rfl) (by decide) (by decide) (by decide) (by decide)]; rfl
set_option maxRecDepth 100000 in
set_option maxHeartbeats 8000000 in
theorem rsame_any (w : World) (S S' : Nat → Prop) (d d' : Nat) (av bv : Value) (l : List Gn) (hA : GsAt w S d av l) (hB : GsAt w S' d' bv l) (hl : l.length ≤ 1000000) (hs : ∀ n ∈ l, Lw.Nar 30 n.ty ∧ n.ins.length ≤ 1000000 ∧ n.side.length ≤ 1000000) :
    Calls Tryz.prog 18 #[av, bv] w fun e w' => e = .returned (.bool true) ∧ Below w.heap.size w w' := by
  obtain ⟨A, c, rfl⟩ := hA.form
  obtain ⟨B, k, rfl⟩ := hB.form
  have HA := Lib.hid hA
  have HB := Lib.hid hB
  have HS := Lib.hid hs
  clear hA hB hs
  go_enter Tryz.func18, Tryz.ntmps18
  go_wp2_with (fail)
  go_loopw [5] (fun iv wr => ∃ (j : Nat), iv = .int .i64 (j : Int) ∧ j ≤ l.length ∧ Hid (Below w.heap.size w wr)) (fun iv _ => l.length - (intOf iv).toNat)
  case atStart => exact ⟨0, rfl, Nat.zero_le _, Lib.hid (Below.refl _ _)⟩
  case round =>
    obtain ⟨j, rfl, hj, HBR⟩ := hrel
    by_cases hlt : j < l.length
    · have hjl : (j : Int) < (l.length : Int) := by omega
      have hat := (HA.out.below HBR.out).at hlt
      have hat2 := (HB.out.below HBR.out).at hlt
      have hsn := HS.out _ (List.getElem_mem hlt)
      generalize l[j] = n at *
      obtain ⟨b, o, rfl, hbl, hS, IA, SA, A, ic, sc, c, hN, a0, a1, a2, a3, a4, a5, a6, a7, a8, a9, a10, a11, a12, a13⟩ := hat
      obtain ⟨b', o', rfl, hbl', hS', IA', SA', A', ic', sc', c', hN', d0, d1, d2, d3, d4, d5, d6, d7, d8, d9, d10, d11, d12, d13⟩ := hat2
      have hbr := HBR.out.size
      have HN := Lib.hid hN
      have HN' := Lib.hid hN'
      have HSN := Lib.hid hsn
      clear hN hN' hsn hS hS'
      have HKA : Hid (∀ W, Below wr.heap.size wr W → W.cell? ⟨b, o + j * 14, none⟩ = some (.int .i64 n.op) ∧ W.cell? ⟨b, o + j * 14 + 1, none⟩ = some (.slice IA n.ins.length ic) ∧ W.cell? ⟨b, o + j * 14 + 2, none⟩ = some (.slice SA n.side.length sc) ∧ W.cell? ⟨b, o + j * 14 + 3, none⟩ = some (.string ⟨n.text.toArray⟩) ∧ W.cell? ⟨b, o + j * 14 + 4, none⟩ = some (.int .i64 n.ty.kind) ∧ W.cell? ⟨b, o + j * 14 + 5, none⟩ = some (.slice A n.ty.args.length c) ∧ W.cell? ⟨b, o + j * 14 + 6, none⟩ = some (.int .i64 n.f0) ∧ W.cell? ⟨b, o + j * 14 + 7, none⟩ = some (.int .i64 n.f1) ∧ W.cell? ⟨b, o + j * 14 + 8, none⟩ = some (.int .i64 n.f2) ∧ W.cell? ⟨b, o + j * 14 + 9, none⟩ = some (.int .i64 n.f3) ∧ W.cell? ⟨b, o + j * 14 + 10, none⟩ = some (.int .i64 n.e) ∧ W.cell? ⟨b, o + j * 14 + 11, none⟩ = some (.int .i64 n.l) ∧ W.cell? ⟨b, o + j * 14 + 12, none⟩ = some (.int .i64 n.lt) ∧ W.cell? ⟨b, o + j * 14 + 13, none⟩ = some (.bool n.acc)) := Lib.hid fun W hb => ⟨(hb.cell (p := ⟨b, o + j * 14, none⟩) hbl).trans a0, (hb.cell (p := ⟨b, o + j * 14 + 1, none⟩) hbl).trans a1, (hb.cell (p := ⟨b, o + j * 14 + 2, none⟩) hbl).trans a2, (hb.cell (p := ⟨b, o + j * 14 + 3, none⟩) hbl).trans a3, (hb.cell (p := ⟨b, o + j * 14 + 4, none⟩) hbl).trans a4, (hb.cell (p := ⟨b, o + j * 14 + 5, none⟩) hbl).trans a5, (hb.cell (p := ⟨b, o + j * 14 + 6, none⟩) hbl).trans a6, (hb.cell (p := ⟨b, o + j * 14 + 7, none⟩) hbl).trans a7, (hb.cell (p := ⟨b, o + j * 14 + 8, none⟩) hbl).trans a8, (hb.cell (p := ⟨b, o + j * 14 + 9, none⟩) hbl).trans a9, (hb.cell (p := ⟨b, o + j * 14 + 10, none⟩) hbl).trans a10, (hb.cell (p := ⟨b, o + j * 14 + 11, none⟩) hbl).trans a11, (hb.cell (p := ⟨b, o + j * 14 + 12, none⟩) hbl).trans a12, (hb.cell (p := ⟨b, o + j * 14 + 13, none⟩) hbl).trans a13⟩
      have HKB : Hid (∀ W, Below wr.heap.size wr W → W.cell? ⟨b', o' + j * 14, none⟩ = some (.int .i64 n.op) ∧ W.cell? ⟨b', o' + j * 14 + 1, none⟩ = some (.slice IA' n.ins.length ic') ∧ W.cell? ⟨b', o' + j * 14 + 2, none⟩ = some (.slice SA' n.side.length sc') ∧ W.cell? ⟨b', o' + j * 14 + 3, none⟩ = some (.string ⟨n.text.toArray⟩) ∧ W.cell? ⟨b', o' + j * 14 + 4, none⟩ = some (.int .i64 n.ty.kind) ∧ W.cell? ⟨b', o' + j * 14 + 5, none⟩ = some (.slice A' n.ty.args.length c') ∧ W.cell? ⟨b', o' + j * 14 + 6, none⟩ = some (.int .i64 n.f0) ∧ W.cell? ⟨b', o' + j * 14 + 7, none⟩ = some (.int .i64 n.f1) ∧ W.cell? ⟨b', o' + j * 14 + 8, none⟩ = some (.int .i64 n.f2) ∧ W.cell? ⟨b', o' + j * 14 + 9, none⟩ = some (.int .i64 n.f3) ∧ W.cell? ⟨b', o' + j * 14 + 10, none⟩ = some (.int .i64 n.e) ∧ W.cell? ⟨b', o' + j * 14 + 11, none⟩ = some (.int .i64 n.l) ∧ W.cell? ⟨b', o' + j * 14 + 12, none⟩ = some (.int .i64 n.lt) ∧ W.cell? ⟨b', o' + j * 14 + 13, none⟩ = some (.bool n.acc)) := Lib.hid fun W hb => ⟨(hb.cell (p := ⟨b', o' + j * 14, none⟩) hbl').trans d0, (hb.cell (p := ⟨b', o' + j * 14 + 1, none⟩) hbl').trans d1, (hb.cell (p := ⟨b', o' + j * 14 + 2, none⟩) hbl').trans d2, (hb.cell (p := ⟨b', o' + j * 14 + 3, none⟩) hbl').trans d3, (hb.cell (p := ⟨b', o' + j * 14 + 4, none⟩) hbl').trans d4, (hb.cell (p := ⟨b', o' + j * 14 + 5, none⟩) hbl').trans d5, (hb.cell (p := ⟨b', o' + j * 14 + 6, none⟩) hbl').trans d6, (hb.cell (p := ⟨b', o' + j * 14 + 7, none⟩) hbl').trans d7, (hb.cell (p := ⟨b', o' + j * 14 + 8, none⟩) hbl').trans d8, (hb.cell (p := ⟨b', o' + j * 14 + 9, none⟩) hbl').trans d9, (hb.cell (p := ⟨b', o' + j * 14 + 10, none⟩) hbl').trans d10, (hb.cell (p := ⟨b', o' + j * 14 + 11, none⟩) hbl').trans d11, (hb.cell (p := ⟨b', o' + j * 14 + 12, none⟩) hbl').trans d12, (hb.cell (p := ⟨b', o' + j * 14 + 13, none⟩) hbl').trans d13⟩
      go_upto_region 6 with (fail)
      go_cut [6, 7] (fun s6 s7 wx => TwoAt wr wx s6 s7 #[.int .i64 n.op, .slice IA n.ins.length ic, .slice SA n.side.length sc, .string ⟨n.text.toArray⟩, .int .i64 n.ty.kind, .slice A n.ty.args.length c, .int .i64 n.f0, .int .i64 n.f1, .int .i64 n.f2, .int .i64 n.f3, .int .i64 n.e, .int .i64 n.l, .int .i64 n.lt, .bool n.acc] #[.int .i64 n.op, .slice IA' n.ins.length ic', .slice SA' n.side.length sc', .string ⟨n.text.toArray⟩, .int .i64 n.ty.kind, .slice A' n.ty.args.length c', .int .i64 n.f0, .int .i64 n.f1, .int .i64 n.f2, .int .i64 n.f3, .int .i64 n.e, .int .i64 n.l, .int .i64 n.lt, .bool n.acc])
      case first =>
        go_region_held3 (fun W => (W.cell? ⟨b, o + j * 14, none⟩ = some (.int .i64 n.op) ∧ W.cell? ⟨b, o + j * 14 + 1, none⟩ = some (.slice IA n.ins.length ic) ∧ W.cell? ⟨b, o + j * 14 + 2, none⟩ = some (.slice SA n.side.length sc) ∧ W.cell? ⟨b, o + j * 14 + 3, none⟩ = some (.string ⟨n.text.toArray⟩) ∧ W.cell? ⟨b, o + j * 14 + 4, none⟩ = some (.int .i64 n.ty.kind) ∧ W.cell? ⟨b, o + j * 14 + 5, none⟩ = some (.slice A n.ty.args.length c) ∧ W.cell? ⟨b, o + j * 14 + 6, none⟩ = some (.int .i64 n.f0) ∧ W.cell? ⟨b, o + j * 14 + 7, none⟩ = some (.int .i64 n.f1) ∧ W.cell? ⟨b, o + j * 14 + 8, none⟩ = some (.int .i64 n.f2) ∧ W.cell? ⟨b, o + j * 14 + 9, none⟩ = some (.int .i64 n.f3) ∧ W.cell? ⟨b, o + j * 14 + 10, none⟩ = some (.int .i64 n.e) ∧ W.cell? ⟨b, o + j * 14 + 11, none⟩ = some (.int .i64 n.l) ∧ W.cell? ⟨b, o + j * 14 + 12, none⟩ = some (.int .i64 n.lt) ∧ W.cell? ⟨b, o + j * 14 + 13, none⟩ = some (.bool n.acc)) ∧ (W.cell? ⟨b', o' + j * 14, none⟩ = some (.int .i64 n.op) ∧ W.cell? ⟨b', o' + j * 14 + 1, none⟩ = some (.slice IA' n.ins.length ic') ∧ W.cell? ⟨b', o' + j * 14 + 2, none⟩ = some (.slice SA' n.side.length sc') ∧ W.cell? ⟨b', o' + j * 14 + 3, none⟩ = some (.string ⟨n.text.toArray⟩) ∧ W.cell? ⟨b', o' + j * 14 + 4, none⟩ = some (.int .i64 n.ty.kind) ∧ W.cell? ⟨b', o' + j * 14 + 5, none⟩ = some (.slice A' n.ty.args.length c') ∧ W.cell? ⟨b', o' + j * 14 + 6, none⟩ = some (.int .i64 n.f0) ∧ W.cell? ⟨b', o' + j * 14 + 7, none⟩ = some (.int .i64 n.f1) ∧ W.cell? ⟨b', o' + j * 14 + 8, none⟩ = some (.int .i64 n.f2) ∧ W.cell? ⟨b', o' + j * 14 + 9, none⟩ = some (.int .i64 n.f3) ∧ W.cell? ⟨b', o' + j * 14 + 10, none⟩ = some (.int .i64 n.e) ∧ W.cell? ⟨b', o' + j * 14 + 11, none⟩ = some (.int .i64 n.l) ∧ W.cell? ⟨b', o' + j * 14 + 12, none⟩ = some (.int .i64 n.lt) ∧ W.cell? ⟨b', o' + j * 14 + 13, none⟩ = some (.bool n.acc)))
          (exact ⟨HKA.out _ (by repeat' (first | with_reducible exact Below.refl _ _ | with_reducible refine bl_al ?_ _ | with_reducible refine bl_dr ?_ | with_reducible refine bl_set ?_ (by simp [World.setCell]; try omega))), HKB.out _ (by repeat' (first | with_reducible exact Below.refl _ _ | with_reducible refine bl_al ?_ _ | with_reducible refine bl_dr ?_ | with_reducible refine bl_set ?_ (by simp [World.setCell]; try omega)))⟩)
          (fail)
        · go_wp2_with (fail)
          go_meet
          refine ⟨_, _, rfl, rfl, ?_, ?_, bl_dr (bl_al (bl_al (Below.refl _ _) _) _)⟩
          · exact alloc_old (heap_alloc_new wr _)
          · have := heap_alloc_new (wr.alloc (.cells #[.int .i64 n.op, .slice IA n.ins.length ic, .slice SA n.side.length sc, .string ⟨n.text.toArray⟩, .int .i64 n.ty.kind, .slice A n.ty.args.length c, .int .i64 n.f0, .int .i64 n.f1, .int .i64 n.f2, .int .i64 n.f3, .int .i64 n.e, .int .i64 n.l, .int .i64 n.lt, .bool n.acc] 51)) (.cells #[.int .i64 n.op, .slice IA' n.ins.length ic', .slice SA' n.side.length sc', .string ⟨n.text.toArray⟩, .int .i64 n.ty.kind, .slice A' n.ty.args.length c', .int .i64 n.f0, .int .i64 n.f1, .int .i64 n.f2, .int .i64 n.f3, .int .i64 n.e, .int .i64 n.l, .int .i64 n.lt, .bool n.acc] 51)
            rwa [World.size_alloc] at this
        · go_wp2_with (fail)
          go_meet
          refine ⟨_, _, rfl, rfl, ?_, ?_, bl_dr (bl_al (bl_al (Below.refl _ _) _) _)⟩
          · have := heap_alloc_new (wr.alloc (.cells #[.int .i64 n.op, .slice IA' n.ins.length ic', .slice SA' n.side.length sc', .string ⟨n.text.toArray⟩, .int .i64 n.ty.kind, .slice A' n.ty.args.length c', .int .i64 n.f0, .int .i64 n.f1, .int .i64 n.f2, .int .i64 n.f3, .int .i64 n.e, .int .i64 n.l, .int .i64 n.lt, .bool n.acc] 51)) (.cells #[.int .i64 n.op, .slice IA n.ins.length ic, .slice SA n.side.length sc, .string ⟨n.text.toArray⟩, .int .i64 n.ty.kind, .slice A n.ty.args.length c, .int .i64 n.f0, .int .i64 n.f1, .int .i64 n.f2, .int .i64 n.f3, .int .i64 n.e, .int .i64 n.l, .int .i64 n.lt, .bool n.acc] 51)
            rwa [World.size_alloc] at this
          · exact alloc_old (heap_alloc_new wr _)
      case rest =>
      obtain ⟨X, Y, rfl, rfl, hX, hY, hbc⟩ := hcut
      have HBC := Lib.hid hbc
      have HXX := Lib.hid hX
      have HYY := Lib.hid hY
      clear hX hY hbc a0 a1 a2 a3 a4 a5 a6 a7 a8 a9 a10 a11 a12 a13 d0 d1 d2 d3 d4 d5 d6 d7 d8 d9 d10 d11 d12 d13 HKA HKB
      have hgi : IntsAt wr S (.slice IA n.ins.length ic) n.ins ∧ IntsAt wr S (.slice SA n.side.length sc) n.side ∧ TyAt wr S d (.agg #[.int .i64 n.ty.kind, .slice A n.ty.args.length c]) n.ty := by
        obtain ⟨_, _, _, _, _, _, e, h1, h2, h3⟩ := HN.out
        unfold Gn.val at e
        injection e with e
        simp only [Array.mk.injEq, List.cons.injEq, Value.slice.injEq, and_true, true_and] at e
        obtain ⟨⟨rfl, rfl⟩, ⟨rfl, rfl⟩, rfl, rfl⟩ := e
        exact ⟨h1, h2, h3⟩
      have hgi' : IntsAt wr S' (.slice IA' n.ins.length ic') n.ins ∧ IntsAt wr S' (.slice SA' n.side.length sc') n.side ∧ TyAt wr S' d' (.agg #[.int .i64 n.ty.kind, .slice A' n.ty.args.length c']) n.ty := by
        obtain ⟨_, _, _, _, _, _, e, h1, h2, h3⟩ := HN'.out
        unfold Gn.val at e
        injection e with e
        simp only [Array.mk.injEq, List.cons.injEq, Value.slice.injEq, and_true, true_and] at e
        obtain ⟨⟨rfl, rfl⟩, ⟨rfl, rfl⟩, rfl, rfl⟩ := e
        exact ⟨h1, h2, h3⟩
      have HI1 : Hid (∀ W, Below wc.heap.size wc W → Calls Tryz.prog 51 #[.slice IA n.ins.length ic, .slice IA' n.ins.length ic'] W fun e w' => e = .returned (.bool true) ∧ ∃ m, w' = W.drewN m) := Lib.hid fun W hb => (rsameI_any W S S' _ _ n.ins (hgi.1.below (bl_tr HBC.out hb)) (hgi'.1.below (bl_tr HBC.out hb)) HSN.out.2.1)
      have HI2 : Hid (∀ W, Below wc.heap.size wc W → Calls Tryz.prog 51 #[.slice SA n.side.length sc, .slice SA' n.side.length sc'] W fun e w' => e = .returned (.bool true) ∧ ∃ m, w' = W.drewN m) := Lib.hid fun W hb => (rsameI_any W S S' _ _ n.side (hgi.2.1.below (bl_tr HBC.out hb)) (hgi'.2.1.below (bl_tr HBC.out hb)) HSN.out.2.2)
      have HTS : Hid (∀ W, Below wc.heap.size wc W → Calls Tryz.prog 52 #[.agg #[.int .i64 n.ty.kind, .slice A n.ty.args.length c], .agg #[.int .i64 n.ty.kind, .slice A' n.ty.args.length c']] W fun e w' => e = .returned (.bool true) ∧ Below W.heap.size W w') := Lib.hid fun W hb => (tsame_any d d' 30 S S' _ _ n.ty n.ty W (nar_k _ _ HSN.out.1) (TyAt.move (fun b hb' hl => ⟨hb', fun _ => World.cell?_of_block ((bl_tr HBC.out hb).block b hl)⟩) _ _ _ hgi.2.2) (TyAt.move (fun b hb' hl => ⟨hb', fun _ => World.cell?_of_block ((bl_tr HBC.out hb).block b hl)⟩) _ _ _ hgi'.2.2)).mono fun e w' ⟨⟨q, h, hq⟩, hw⟩ => ⟨by rw [h, hq.2 rfl], hw⟩
      have g1 := fun w' => Tryz.guFnR .neq w'
      have g2 := fun w' => Tryz.guSpR .neq w'
      have q1 : ∀ w', (binOp .neq 47 (.agg #[.int .i64 n.f0, .int .i64 n.f1, .int .i64 n.f2, .int .i64 n.f3]) (.agg #[.int .i64 n.f0, .int .i64 n.f1, .int .i64 n.f2, .int .i64 n.f3])).run Tryz.prog w' = .ok (.bool false) w' := fun w' => by rw [Tryz.eqFnR]; simp
      have q2 : ∀ w', (binOp .neq 49 (.agg #[.int .i64 n.e, .int .i64 n.l, .int .i64 n.lt, .bool n.acc]) (.agg #[.int .i64 n.e, .int .i64 n.l, .int .i64 n.lt, .bool n.acc])).run Tryz.prog w' = .ok (.bool false) w' := fun w' => by rw [Tryz.eqSpRn]; simp
      clear hgi hgi'
      have x0 := cellN (i := 0) HXX.out rfl
      have y0 := cellN (i := 0) HYY.out rfl
      have x1 := cellN (i := 1) HXX.out rfl
      have y1 := cellN (i := 1) HYY.out rfl
      have x2 := cellN (i := 2) HXX.out rfl
      have y2 := cellN (i := 2) HYY.out rfl
      have x3 := cellN (i := 3) HXX.out rfl
      have y3 := cellN (i := 3) HYY.out rfl
      have x4 := cellN (i := 4) HXX.out rfl
      have y4 := cellN (i := 4) HYY.out rfl
      have x5 := cellN (i := 5) HXX.out rfl
      have y5 := cellN (i := 5) HYY.out rfl
      have x6 := cellN (i := 6) HXX.out rfl
      have y6 := cellN (i := 6) HYY.out rfl
      have x7 := cellN (i := 7) HXX.out rfl
      have y7 := cellN (i := 7) HYY.out rfl
      have x8 := cellN (i := 8) HXX.out rfl
      have y8 := cellN (i := 8) HYY.out rfl
      have x9 := cellN (i := 9) HXX.out rfl
      have y9 := cellN (i := 9) HYY.out rfl
      have x10 := cellN (i := 10) HXX.out rfl
      have y10 := cellN (i := 10) HYY.out rfl
      have x11 := cellN (i := 11) HXX.out rfl
      have y11 := cellN (i := 11) HYY.out rfl
      have x12 := cellN (i := 12) HXX.out rfl
      have y12 := cellN (i := 12) HYY.out rfl
      have x13 := cellN (i := 13) HXX.out rfl
      have y13 := cellN (i := 13) HYY.out rfl
      have clx := cell_lt HXX.out
      have cly := cell_lt HYY.out
      go_wp2_with (first
        | (go_at_call 51; (with_reducible refine (HI1.out _ (by repeat' (first | with_reducible exact Below.refl _ _ | with_reducible refine bl_dr ?_ | with_reducible refine bl_drn ?_ _))).mono ?_); rintro e w3 ⟨rfl, m3, rfl⟩)
        | (go_at_call 51; (with_reducible refine (HI2.out _ (by repeat' (first | with_reducible exact Below.refl _ _ | with_reducible refine bl_dr ?_ | with_reducible refine bl_drn ?_ _))).mono ?_); rintro e w4 ⟨rfl, m4, rfl⟩)
        | (go_at_call 52; (with_reducible refine (HTS.out _ (by repeat' (first | with_reducible exact Below.refl _ _ | with_reducible refine bl_dr ?_ | with_reducible refine bl_drn ?_ _))).mono ?_); rintro e w5 ⟨rfl, hb5⟩; have hb6 : Below wc.heap.size wc w5 := bl_tr (by repeat' (first | with_reducible exact Below.refl _ _ | with_reducible refine bl_dr ?_ | with_reducible refine bl_drn ?_ _)) hb5; have hx5 := bl_blk hb6 HXX.out; have hy5 := bl_blk hb6 HYY.out; have x6 := cellN (i := 6) hx5 rfl; have y6 := cellN (i := 6) hy5 rfl; have x7 := cellN (i := 7) hx5 rfl; have y7 := cellN (i := 7) hy5 rfl; have x8 := cellN (i := 8) hx5 rfl; have y8 := cellN (i := 8) hy5 rfl; have x9 := cellN (i := 9) hx5 rfl; have y9 := cellN (i := 9) hy5 rfl; have x10 := cellN (i := 10) hx5 rfl; have y10 := cellN (i := 10) hy5 rfl; have x11 := cellN (i := 11) hx5 rfl; have y11 := cellN (i := 11) hy5 rfl; have x12 := cellN (i := 12) hx5 rfl; have y12 := cellN (i := 12) hy5 rfl; have x13 := cellN (i := 13) hx5 rfl; have y13 := cellN (i := 13) hy5 rfl; have clx := cell_lt hx5; have cly := cell_lt hy5; have HB5 := Lib.hid hb6; clear hb5 hb6 hx5 hy5)
        | fail)
      go_roundw
      case rel => exact ⟨j + 1, by go_num, by omega, Lib.hid (HBR.out.trans ((bl_tr HBC.out HB5.out).mono hbr))⟩
      case measure => simp [intOf]; omega
    · obtain rfl : j = l.length := by omega
      have hjl : ¬ ((l.length : Int) < (l.length : Int)) := by omega
      go_wp2_with (fail)
      go_ret
      exact ⟨rfl, HBR.out⟩
end Go.Proofs.YtllnamhgnbdkmaaGreatDoor
set_option linter.unusedVariables false
set_option linter.unusedSimpArgs false
namespace Go.Proofs.YtllnamhgnbdkmaaGreatDoor
open Go.RowKit Go.Shelf Go.Sort
theorem own_uniq {w : World} {B e s n : Nat} {v : Value} {xs ys : List Value} (h : w.ownsRow B e s v n xs) (k : w.ownsRow B e s v n ys) : xs = ys := by
  rcases h.2 with ⟨rfl, h0⟩ | ⟨g, cap, cur, rfl, hb, hg, hle, hm, hc, hx⟩
  · have h1 := h.1
    have h2 := k.1
    rw [h0, Nat.zero_mul] at h1 h2
    rw [List.eq_nil_of_length_eq_zero h1, List.eq_nil_of_length_eq_zero h2]
  · rcases k.2 with ⟨e, _⟩ | ⟨g', cap', cur', e, hb', hg', hle', hm', hc', hy⟩
    · cases e
    · cases e
      rw [hg] at hg'
      simp only [Option.some.injEq, Obj.cells.injEq] at hg'
      obtain ⟨rfl, _⟩ := hg'
      rw [← hx, ← hy]
theorem aft_next {w0 w w13 w14 : World} {NB LB BB B d : Nat} {x : Int} {pv bv v7 : Value} {L K : List Gn} {m : Gn} {I1 S1 A1 : Option Addr} {k1 k2 k3 : Nat} {xs : List Value} (h : Aft w0 w NB LB BB B d x pv bv (m.val I1 S1 A1 k1 k2 k3) L K m) (hb : Below w.heap.size w w13)
    (ho : w13.ownsRow w0.heap.size 51 14 pv L.length xs) (hown : w14.ownsRow w0.heap.size 51 14 v7 (L.length + 1) (xs ++ (m.val I1 S1 A1 k1 k2 k3).cells.toList)) (hg : w13.grownBy w14 pv.ownBlock) (hat : v7.ownBlock = pv.ownBlock ∨ v7.ownBlock = some w13.heap.size) :
    PlR w14 w0.heap.size w14.heap.size d v7 (L ++ [m]) ∧ Bld w14 BB B (fun b => v7.ownBlock = some b) bv ((K.map madeN).take 33) ((K.map madeN).length : Int) ∧ Below w0.heap.size w0 w14 := by
  have hp := h.pl.below hb
  have hb0 := h.below.trans (hb.mono h.below.size)
  refine ⟨?_, ?_, ?_⟩
  · refine (hp.more (h.gn.move fun b hb' hl => ⟨⟨Nat.lt_of_lt_of_le hl hb.size, ?_⟩, Nat.lt_of_lt_of_le hl hb.size, fun o => World.cell?_of_block (hb.block b hl)⟩) (fun ys hy => own_uniq ho hy ▸ hown) hg)
    rcases hb' with hb' | rfl
    · exact .inl hb'
    · exact .inr ⟨x, bl_blk hb h.lb⟩
  · refine (h.bld.move (P := fun _ => False) (C' := fun b => (NB ≤ b ∧ b ≤ LB + 1) ∨ pv.ownBlock = some b) (Tn.of_below hb) (fun g hp => hp.elim) (fun b hb => .inl hb)).move (P := fun g => pv.ownBlock = some g) ⟨hg.os, hg.tape, hg.output, hg.size, fun k hk hn => hg.block k hk fun e => hn e.symm⟩ (fun g hg' => ?_) (fun b hb' => ?_)
    · obtain ⟨c, hc⟩ := hp.row hg'
      exact ⟨.inr hg', c, _, _, hc, by decide, by decide⟩
    · rcases hat with e | e
      · exact .inl (.inr (by rw [← e]; exact hb'))
      · rw [e] at hb'
        exact .inr (by have := Option.some.inj hb'; omega)
  · exact hb0.trans ⟨hg.os, hg.tape, hg.output, hg.size, fun k hk => hg.block k (Nat.lt_of_lt_of_le hk hb0.size) fun e => by have := (ho.lt k e.symm).1; omega⟩
theorem lawN_small {n m : Gn} (h : SmN n) (hm : lawN n = some m) : SmN m := by
  have hz : Lw.Nar 30 tyZ := ⟨Nat.zero_le _, fun a ha => by cases ha⟩
  unfold lawN at hm
  repeat' (split at hm)
  all_goals first | (cases hm; exact ⟨by first | exact h.ins | simp [gz], by first | exact h.side | simp [gz], by first | exact h.text | simp [gz], by first | exact h.ty | exact hz⟩) | cases hm
theorem law_small {l : List Gn} (h : ∀ n ∈ l, SmN n) : ∀ m ∈ l.filterMap lawN, SmN m := fun m hm => by
  obtain ⟨n, hn, e⟩ := List.mem_filterMap.1 hm
  exact lawN_small (h n hn) e
end Go.Proofs.YtllnamhgnbdkmaaGreatDoor
