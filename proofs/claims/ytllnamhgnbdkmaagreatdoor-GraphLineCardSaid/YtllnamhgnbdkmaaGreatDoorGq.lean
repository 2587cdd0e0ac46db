/-
Stage 11: the document's Same, of equal nodes. Stage 11: the document's Same, of equal nodes.
-/
import Derived.Test.YtllnamhgnbdkmaaGreatDoorRf
import Derived.Test.YtllnamhgnbdkmaaGreatDoorOf
import Derived.Test.YtllnamhgnbdkmaaGreatDoorRc
import Derived.Test.YtllnamhgnbdkmaaGreatDoorGp
set_option linter.unusedVariables false
set_option linter.unusedSimpArgs false
namespace Go.Proofs.YtllnamhgnbdkmaaGreatDoor
open Go.RowKit
set_option maxRecDepth 100000 in
set_option maxHeartbeats 1000000 in
theorem rsameI_any (w : World) (S S' : Nat → Prop) (av bv : Value) (l : List Int) (hA : IntsAt w S av l) (hB : IntsAt w S' bv l) (hl : l.length ≤ 1000000) :
    Calls Tryz.prog 51 #[av, bv] w fun e w' => e = .returned (.bool true) ∧ ∃ m, w' = w.drewN m := by
  obtain ⟨A, c, rfl⟩ := hA.form
  obtain ⟨B, k, rfl⟩ := hB.form
  have HA := Lib.hid hA
  have HB := Lib.hid hB
  clear hA hB
  go_enter Tryz.func51, Tryz.ntmps51
  go_wp2_with (fail)
  go_loopw [5] (fun iv wr => ∃ (j : Nat), iv = .int .i64 (j : Int) ∧ j ≤ l.length ∧ ∃ q, wr = w.drewN q) (fun iv _ => l.length - (intOf iv).toNat)
  case atStart => exact ⟨0, rfl, Nat.zero_le _, 0, rfl⟩
  case round =>
    obtain ⟨j, rfl, hj, q, rfl⟩ := hrel
    by_cases hlt : j < l.length
    · have hjl : (j : Int) < (l.length : Int) := by omega
      obtain ⟨b, o, rfl, hc, hbl, hS⟩ := HA.out.cell hlt
      obtain ⟨b2, o2, rfl, hc2, hbl2, hS2⟩ := HB.out.cell hlt
      generalize l[j] = x at *
      go_upto_region 6 with (fail)
      go_quiet (fail)
      go_wp2_with (fail)
      go_roundw
      case rel => exact ⟨j + 1, by go_num, by omega, _, rfl⟩
      case measure => simp [intOf]; omega
    · obtain rfl : j = l.length := by omega
      have hjl : ¬ ((l.length : Int) < (l.length : Int)) := by omega
      go_wp2_with (fail)
      go_ret
      exact ⟨rfl, _, rfl⟩
end Go.Proofs.YtllnamhgnbdkmaaGreatDoor
namespace Go.Proofs.YtllnamhgnbdkmaaGreatDoor
open Go.RowKit
def TwoAt (wr wx : World) (s6 s7 : Value) (xs ys : Array Value) : Prop := ∃ X Y, s6 = .pointer (some ⟨X, 0, none⟩) ∧ s7 = .pointer (some ⟨Y, 0, none⟩) ∧ wx.heap[X]? = some (.cells xs 51 (0, 0)) ∧ wx.heap[Y]? = some (.cells ys 51 (0, 0)) ∧ Below wr.heap.size wr wx
theorem Tryz.eqSpRn (w : World) (a b c a' b' c' : Int) (d d' : Bool) : (binOp .neq 49 (.agg #[.int .i64 a, .int .i64 b, .int .i64 c, .bool d]) (.agg #[.int .i64 a', .int .i64 b', .int .i64 c', .bool d'])).run Tryz.prog w = .ok (.bool (!(a == a' && b == b' && c == c' && d == d'))) w := by
  rw [run_neq_struct, eq4b 49 (by kernel_rfl) (by kernel_rfl) "Early" "Late" "Lateness" "Accumulate" (by kernel_rfl) (by decide) (by decide) (by decide) (by decide)]; rfl
set_option maxRecDepth 100000 in
set_option maxHeartbeats 8000000 in
theorem rsame_any (w : World) (S S' : Nat → Prop) (d d' : Nat) (av bv : Value) (l : List Gn) (hA : GsAt w S d av l) (hB : GsAt w S' d' bv l) (hl : l.length ≤ 1000000) (hs : ∀ n ∈ l, Lw.Nar 30 n.ty ∧ n.ins.length ≤ 1000000 ∧ n.side.length ≤ 1000000) :
    Calls Tryz.prog 18 #[av, bv] w fun e w' => e = .returned (.bool true) ∧ Below w.heap.size w w' := by
  obtain ⟨A, c, rfl⟩ := hA.form
  obtain ⟨B, k, rfl⟩ := hB.form
  have HA := Lib.hid hA
  have HB := Lib.hid hB
  have HS := Lib.hid hs
  clear hA hB hs
  go_enter Tryz.func18, Tryz.ntmps18
  go_wp2_with (fail)
  go_loopw [5] (fun iv wr => ∃ (j : Nat), iv = .int .i64 (j : Int) ∧ j ≤ l.length ∧ Hid (Below w.heap.size w wr)) (fun iv _ => l.length - (intOf iv).toNat)
  case atStart => exact ⟨0, rfl, Nat.zero_le _, Lib.hid (Below.refl _ _)⟩
  case round =>
    obtain ⟨j, rfl, hj, HBR⟩ := hrel
    by_cases hlt : j < l.length
    · have hjl : (j : Int) < (l.length : Int) := by omega
      have hat := (HA.out.below HBR.out).at hlt
      have hat2 := (HB.out.below HBR.out).at hlt
      have hsn := HS.out _ (List.getElem_mem hlt)
      generalize l[j] = n at *
      obtain ⟨b, o, rfl, hbl, hS, IA, SA, A, ic, sc, c, hN, a0, a1, a2, a3, a4, a5, a6, a7, a8, a9, a10, a11, a12, a13⟩ := hat
      obtain ⟨b', o', rfl, hbl', hS', IA', SA', A', ic', sc', c', hN', d0, d1, d2, d3, d4, d5, d6, d7, d8, d9, d10, d11, d12, d13⟩ := hat2
      have hbr := HBR.out.size
      have HN := Lib.hid hN
      have HN' := Lib.hid hN'
      have HSN := Lib.hid hsn
      clear hN hN' hsn hS hS'
      have HKA : Hid (∀ W, Below wr.heap.size wr W → W.cell? ⟨b, o + j * 14, none⟩ = some (.int .i64 n.op) ∧ W.cell? ⟨b, o + j * 14 + 1, none⟩ = some (.slice IA n.ins.length ic) ∧ W.cell? ⟨b, o + j * 14 + 2, none⟩ = some (.slice SA n.side.length sc) ∧ W.cell? ⟨b, o + j * 14 + 3, none⟩ = some (.string ⟨n.text.toArray⟩) ∧ W.cell? ⟨b, o + j * 14 + 4, none⟩ = some (.int .i64 n.ty.kind) ∧ W.cell? ⟨b, o + j * 14 + 5, none⟩ = some (.slice A n.ty.args.length c) ∧ W.cell? ⟨b, o + j * 14 + 6, none⟩ = some (.int .i64 n.f0) ∧ W.cell? ⟨b, o + j * 14 + 7, none⟩ = some (.int .i64 n.f1) ∧ W.cell? ⟨b, o + j * 14 + 8, none⟩ = some (.int .i64 n.f2) ∧ W.cell? ⟨b, o + j * 14 + 9, none⟩ = some (.int .i64 n.f3) ∧ W.cell? ⟨b, o + j * 14 + 10, none⟩ = some (.int .i64 n.e) ∧ W.cell? ⟨b, o + j * 14 + 11, none⟩ = some (.int .i64 n.l) ∧ W.cell? ⟨b, o + j * 14 + 12, none⟩ = some (.int .i64 n.lt) ∧ W.cell? ⟨b, o + j * 14 + 13, none⟩ = some (.bool n.acc)) := Lib.hid fun W hb => ⟨(hb.cell (p := ⟨b, o + j * 14, none⟩) hbl).trans a0, (hb.cell (p := ⟨b, o + j * 14 + 1, none⟩) hbl).trans a1, (hb.cell (p := ⟨b, o + j * 14 + 2, none⟩) hbl).trans a2, (hb.cell (p := ⟨b, o + j * 14 + 3, none⟩) hbl).trans a3, (hb.cell (p := ⟨b, o + j * 14 + 4, none⟩) hbl).trans a4, (hb.cell (p := ⟨b, o + j * 14 + 5, none⟩) hbl).trans a5, (hb.cell (p := ⟨b, o + j * 14 + 6, none⟩) hbl).trans a6, (hb.cell (p := ⟨b, o + j * 14 + 7, none⟩) hbl).trans a7, (hb.cell (p := ⟨b, o + j * 14 + 8, none⟩) hbl).trans a8, (hb.cell (p := ⟨b, o + j * 14 + 9, none⟩) hbl).trans a9, (hb.cell (p := ⟨b, o + j * 14 + 10, none⟩) hbl).trans a10, (hb.cell (p := ⟨b, o + j * 14 + 11, none⟩) hbl).trans a11, (hb.cell (p := ⟨b, o + j * 14 + 12, none⟩) hbl).trans a12, (hb.cell (p := ⟨b, o + j * 14 + 13, none⟩) hbl).trans a13⟩
      have HKB : Hid (∀ W, Below wr.heap.size wr W → W.cell? ⟨b', o' + j * 14, none⟩ = some (.int .i64 n.op) ∧ W.cell? ⟨b', o' + j * 14 + 1, none⟩ = some (.slice IA' n.ins.length ic') ∧ W.cell? ⟨b', o' + j * 14 + 2, none⟩ = some (.slice SA' n.side.length sc') ∧ W.cell? ⟨b', o' + j * 14 + 3, none⟩ = some (.string ⟨n.text.toArray⟩) ∧ W.cell? ⟨b', o' + j * 14 + 4, none⟩ = some (.int .i64 n.ty.kind) ∧ W.cell? ⟨b', o' + j * 14 + 5, none⟩ = some (.slice A' n.ty.args.length c') ∧ W.cell? ⟨b', o' + j * 14 + 6, none⟩ = some (.int .i64 n.f0) ∧ W.cell? ⟨b', o' + j * 14 + 7, none⟩ = some (.int .i64 n.f1) ∧ W.cell? ⟨b', o' + j * 14 + 8, none⟩ = some (.int .i64 n.f2) ∧ W.cell? ⟨b', o' + j * 14 + 9, none⟩ = some (.int .i64 n.f3) ∧ W.cell? ⟨b', o' + j * 14 + 10, none⟩ = some (.int .i64 n.e) ∧ W.cell? ⟨b', o' + j * 14 + 11, none⟩ = some (.int .i64 n.l) ∧ W.cell? ⟨b', o' + j * 14 + 12, none⟩ = some (.int .i64 n.lt) ∧ W.cell? ⟨b', o' + j * 14 + 13, none⟩ = some (.bool n.acc)) := Lib.hid fun W hb => ⟨(hb.cell (p := ⟨b', o' + j * 14, none⟩) hbl').trans d0, (hb.cell (p := ⟨b', o' + j * 14 + 1, none⟩) hbl').trans d1, (hb.cell (p := ⟨b', o' + j * 14 + 2, none⟩) hbl').trans d2, (hb.cell (p := ⟨b', o' + j * 14 + 3, none⟩) hbl').trans d3, (hb.cell (p := ⟨b', o' + j * 14 + 4, none⟩) hbl').trans d4, (hb.cell (p := ⟨b', o' + j * 14 + 5, none⟩) hbl').trans d5, (hb.cell (p := ⟨b', o' + j * 14 + 6, none⟩) hbl').trans d6, (hb.cell (p := ⟨b', o' + j * 14 + 7, none⟩) hbl').trans d7, (hb.cell (p := ⟨b', o' + j * 14 + 8, none⟩) hbl').trans d8, (hb.cell (p := ⟨b', o' + j * 14 + 9, none⟩) hbl').trans d9, (hb.cell (p := ⟨b', o' + j * 14 + 10, none⟩) hbl').trans d10, (hb.cell (p := ⟨b', o' + j * 14 + 11, none⟩) hbl').trans d11, (hb.cell (p := ⟨b', o' + j * 14 + 12, none⟩) hbl').trans d12, (hb.cell (p := ⟨b', o' + j * 14 + 13, none⟩) hbl').trans d13⟩
      go_upto_region 6 with (fail)
      go_cut [6, 7] (fun s6 s7 wx => TwoAt wr wx s6 s7 #[.int .i64 n.op, .slice IA n.ins.length ic, .slice SA n.side.length sc, .string ⟨n.text.toArray⟩, .int .i64 n.ty.kind, .slice A n.ty.args.length c, .int .i64 n.f0, .int .i64 n.f1, .int .i64 n.f2, .int .i64 n.f3, .int .i64 n.e, .int .i64 n.l, .int .i64 n.lt, .bool n.acc] #[.int .i64 n.op, .slice IA' n.ins.length ic', .slice SA' n.side.length sc', .string ⟨n.text.toArray⟩, .int .i64 n.ty.kind, .slice A' n.ty.args.length c', .int .i64 n.f0, .int .i64 n.f1, .int .i64 n.f2, .int .i64 n.f3, .int .i64 n.e, .int .i64 n.l, .int .i64 n.lt, .bool n.acc])
      case first =>
        go_region_held3 (fun W => (W.cell? ⟨b, o + j * 14, none⟩ = some (.int .i64 n.op) ∧ W.cell? ⟨b, o + j * 14 + 1, none⟩ = some (.slice IA n.ins.length ic) ∧ W.cell? ⟨b, o + j * 14 + 2, none⟩ = some (.slice SA n.side.length sc) ∧ W.cell? ⟨b, o + j * 14 + 3, none⟩ = some (.string ⟨n.text.toArray⟩) ∧ W.cell? ⟨b, o + j * 14 + 4, none⟩ = some (.int .i64 n.ty.kind) ∧ W.cell? ⟨b, o + j * 14 + 5, none⟩ = some (.slice A n.ty.args.length c) ∧ W.cell? ⟨b, o + j * 14 + 6, none⟩ = some (.int .i64 n.f0) ∧ W.cell? ⟨b, o + j * 14 + 7, none⟩ = some (.int .i64 n.f1) ∧ W.cell? ⟨b, o + j * 14 + 8, none⟩ = some (.int .i64 n.f2) ∧ W.cell? ⟨b, o + j * 14 + 9, none⟩ = some (.int .i64 n.f3) ∧ W.cell? ⟨b, o + j * 14 + 10, none⟩ = some (.int .i64 n.e) ∧ W.cell? ⟨b, o + j * 14 + 11, none⟩ = some (.int .i64 n.l) ∧ W.cell? ⟨b, o + j * 14 + 12, none⟩ = some (.int .i64 n.lt) ∧ W.cell? ⟨b, o + j * 14 + 13, none⟩ = some (.bool n.acc)) ∧ (W.cell? ⟨b', o' + j * 14, none⟩ = some (.int .i64 n.op) ∧ W.cell? ⟨b', o' + j * 14 + 1, none⟩ = some (.slice IA' n.ins.length ic') ∧ W.cell? ⟨b', o' + j * 14 + 2, none⟩ = some (.slice SA' n.side.length sc') ∧ W.cell? ⟨b', o' + j * 14 + 3, none⟩ = some (.string ⟨n.text.toArray⟩) ∧ W.cell? ⟨b', o' + j * 14 + 4, none⟩ = some (.int .i64 n.ty.kind) ∧ W.cell? ⟨b', o' + j * 14 + 5, none⟩ = some (.slice A' n.ty.args.length c') ∧ W.cell? ⟨b', o' + j * 14 + 6, none⟩ = some (.int .i64 n.f0) ∧ W.cell? ⟨b', o' + j * 14 + 7, none⟩ = some (.int .i64 n.f1) ∧ W.cell? ⟨b', o' + j * 14 + 8, none⟩ = some (.int .i64 n.f2) ∧ W.cell? ⟨b', o' + j * 14 + 9, none⟩ = some (.int .i64 n.f3) ∧ W.cell? ⟨b', o' + j * 14 + 10, none⟩ = some (.int .i64 n.e) ∧ W.cell? ⟨b', o' + j * 14 + 11, none⟩ = some (.int .i64 n.l) ∧ W.cell? ⟨b', o' + j * 14 + 12, none⟩ = some (.int .i64 n.lt) ∧ W.cell? ⟨b', o' + j * 14 + 13, none⟩ = some (.bool n.acc)))
          (exact ⟨HKA.out _ (by repeat' (first | with_reducible exact Below.refl _ _ | with_reducible refine bl_al ?_ _ | with_reducible refine bl_dr ?_ | with_reducible refine bl_set ?_ (by simp [World.setCell]; try omega))), HKB.out _ (by repeat' (first | with_reducible exact Below.refl _ _ | with_reducible refine bl_al ?_ _ | with_reducible refine bl_dr ?_ | with_reducible refine bl_set ?_ (by simp [World.setCell]; try omega)))⟩)
          (fail)
        · go_wp2_with (fail)
          go_meet
          refine ⟨_, _, rfl, rfl, ?_, ?_, bl_dr (bl_al (bl_al (Below.refl _ _) _) _)⟩
          · exact alloc_old (heap_alloc_new wr _)
          · have := heap_alloc_new (wr.alloc (.cells #[.int .i64 n.op, .slice IA n.ins.length ic, .slice SA n.side.length sc, .string ⟨n.text.toArray⟩, .int .i64 n.ty.kind, .slice A n.ty.args.length c, .int .i64 n.f0, .int .i64 n.f1, .int .i64 n.f2, .int .i64 n.f3, .int .i64 n.e, .int .i64 n.l, .int .i64 n.lt, .bool n.acc] 51)) (.cells #[.int .i64 n.op, .slice IA' n.ins.length ic', .slice SA' n.side.length sc', .string ⟨n.text.toArray⟩, .int .i64 n.ty.kind, .slice A' n.ty.args.length c', .int .i64 n.f0, .int .i64 n.f1, .int .i64 n.f2, .int .i64 n.f3, .int .i64 n.e, .int .i64 n.l, .int .i64 n.lt, .bool n.acc] 51)
            rwa [World.size_alloc] at this
        · go_wp2_with (fail)
          go_meet
          refine ⟨_, _, rfl, rfl, ?_, ?_, bl_dr (bl_al (bl_al (Below.refl _ _) _) _)⟩
          · have := heap_alloc_new (wr.alloc (.cells #[.int .i64 n.op, .slice IA' n.ins.length ic', .slice SA' n.side.length sc', .string ⟨n.text.toArray⟩, .int .i64 n.ty.kind, .slice A' n.ty.args.length c', .int .i64 n.f0, .int .i64 n.f1, .int .i64 n.f2, .int .i64 n.f3, .int .i64 n.e, .int .i64 n.l, .int .i64 n.lt, .bool n.acc] 51)) (.cells #[.int .i64 n.op, .slice IA n.ins.length ic, .slice SA n.side.length sc, .string ⟨n.text.toArray⟩, .int .i64 n.ty.kind, .slice A n.ty.args.length c, .int .i64 n.f0, .int .i64 n.f1, .int .i64 n.f2, .int .i64 n.f3, .int .i64 n.e, .int .i64 n.l, .int .i64 n.lt, .bool n.acc] 51)
            rwa [World.size_alloc] at this
          · exact alloc_old (heap_alloc_new wr _)
      case rest =>
      obtain ⟨X, Y, rfl, rfl, hX, hY, hbc⟩ := hcut
      have HBC := Lib.hid hbc
      have HXX := Lib.hid hX
      have HYY := Lib.hid hY
      clear hX hY hbc a0 a1 a2 a3 a4 a5 a6 a7 a8 a9 a10 a11 a12 a13 d0 d1 d2 d3 d4 d5 d6 d7 d8 d9 d10 d11 d12 d13 HKA HKB
      have hgi : IntsAt wr S (.slice IA n.ins.length ic) n.ins ∧ IntsAt wr S (.slice SA n.side.length sc) n.side ∧ TyAt wr S d (.agg #[.int .i64 n.ty.kind, .slice A n.ty.args.length c]) n.ty := by
        obtain ⟨_, _, _, _, _, _, e, h1, h2, h3⟩ := HN.out
        unfold Gn.val at e
        injection e with e
        simp only [Array.mk.injEq, List.cons.injEq, Value.slice.injEq, and_true, true_and] at e
        obtain ⟨⟨rfl, rfl⟩, ⟨rfl, rfl⟩, rfl, rfl⟩ := e
        exact ⟨h1, h2, h3⟩
      have hgi' : IntsAt wr S' (.slice IA' n.ins.length ic') n.ins ∧ IntsAt wr S' (.slice SA' n.side.length sc') n.side ∧ TyAt wr S' d' (.agg #[.int .i64 n.ty.kind, .slice A' n.ty.args.length c']) n.ty := by
        obtain ⟨_, _, _, _, _, _, e, h1, h2, h3⟩ := HN'.out
        unfold Gn.val at e
        injection e with e
        simp only [Array.mk.injEq, List.cons.injEq, Value.slice.injEq, and_true, true_and] at e
        obtain ⟨⟨rfl, rfl⟩, ⟨rfl, rfl⟩, rfl, rfl⟩ := e
        exact ⟨h1, h2, h3⟩
      have HI1 : Hid (∀ W, Below wc.heap.size wc W → Calls Tryz.prog 51 #[.slice IA n.ins.length ic, .slice IA' n.ins.length ic'] W fun e w' => e = .returned (.bool true) ∧ ∃ m, w' = W.drewN m) := Lib.hid fun W hb => (rsameI_any W S S' _ _ n.ins (hgi.1.below (bl_tr HBC.out hb)) (hgi'.1.below (bl_tr HBC.out hb)) HSN.out.2.1)
      have HI2 : Hid (∀ W, Below wc.heap.size wc W → Calls Tryz.prog 51 #[.slice SA n.side.length sc, .slice SA' n.side.length sc'] W fun e w' => e = .returned (.bool true) ∧ ∃ m, w' = W.drewN m) := Lib.hid fun W hb => (rsameI_any W S S' _ _ n.side (hgi.2.1.below (bl_tr HBC.out hb)) (hgi'.2.1.below (bl_tr HBC.out hb)) HSN.out.2.2)
      have HTS : Hid (∀ W, Below wc.heap.size wc W → Calls Tryz.prog 52 #[.agg #[.int .i64 n.ty.kind, .slice A n.ty.args.length c], .agg #[.int .i64 n.ty.kind, .slice A' n.ty.args.length c']] W fun e w' => e = .returned (.bool true) ∧ Below W.heap.size W w') := Lib.hid fun W hb => (tsame_any d d' 30 S S' _ _ n.ty n.ty W (nar_k _ _ HSN.out.1) (TyAt.move (fun b hb' hl => ⟨hb', fun _ => World.cell?_of_block ((bl_tr HBC.out hb).block b hl)⟩) _ _ _ hgi.2.2) (TyAt.move (fun b hb' hl => ⟨hb', fun _ => World.cell?_of_block ((bl_tr HBC.out hb).block b hl)⟩) _ _ _ hgi'.2.2)).mono fun e w' ⟨⟨q, h, hq⟩, hw⟩ => ⟨by rw [h, hq.2 rfl], hw⟩
      have g1 := fun w' => Tryz.guFnR .neq w'
      have g2 := fun w' => Tryz.guSpR .neq w'
      have q1 : ∀ w', (binOp .neq 47 (.agg #[.int .i64 n.f0, .int .i64 n.f1, .int .i64 n.f2, .int .i64 n.f3]) (.agg #[.int .i64 n.f0, .int .i64 n.f1, .int .i64 n.f2, .int .i64 n.f3])).run Tryz.prog w' = .ok (.bool false) w' := fun w' => by rw [Tryz.eqFnR]; simp
      have q2 : ∀ w', (binOp .neq 49 (.agg #[.int .i64 n.e, .int .i64 n.l, .int .i64 n.lt, .bool n.acc]) (.agg #[.int .i64 n.e, .int .i64 n.l, .int .i64 n.lt, .bool n.acc])).run Tryz.prog w' = .ok (.bool false) w' := fun w' => by rw [Tryz.eqSpRn]; simp
      clear hgi hgi'
      have x0 := cellN (i := 0) HXX.out rfl
      have y0 := cellN (i := 0) HYY.out rfl
      have x1 := cellN (i := 1) HXX.out rfl
      have y1 := cellN (i := 1) HYY.out rfl
      have x2 := cellN (i := 2) HXX.out rfl
      have y2 := cellN (i := 2) HYY.out rfl
      have x3 := cellN (i := 3) HXX.out rfl
      have y3 := cellN (i := 3) HYY.out rfl
      have x4 := cellN (i := 4) HXX.out rfl
      have y4 := cellN (i := 4) HYY.out rfl
      have x5 := cellN (i := 5) HXX.out rfl
      have y5 := cellN (i := 5) HYY.out rfl
      have x6 := cellN (i := 6) HXX.out rfl
      have y6 := cellN (i := 6) HYY.out rfl
      have x7 := cellN (i := 7) HXX.out rfl
      have y7 := cellN (i := 7) HYY.out rfl
      have x8 := cellN (i := 8) HXX.out rfl
      have y8 := cellN (i := 8) HYY.out rfl
      have x9 := cellN (i := 9) HXX.out rfl
      have y9 := cellN (i := 9) HYY.out rfl
      have x10 := cellN (i := 10) HXX.out rfl
      have y10 := cellN (i := 10) HYY.out rfl
      have x11 := cellN (i := 11) HXX.out rfl
      have y11 := cellN (i := 11) HYY.out rfl
      have x12 := cellN (i := 12) HXX.out rfl
      have y12 := cellN (i := 12) HYY.out rfl
      have x13 := cellN (i := 13) HXX.out rfl
      have y13 := cellN (i := 13) HYY.out rfl
      have clx := cell_lt HXX.out
      have cly := cell_lt HYY.out
      go_wp2_with (first
        | (go_at_call 51; (with_reducible refine (HI1.out _ (by repeat' (first | with_reducible exact Below.refl _ _ | with_reducible refine bl_dr ?_ | with_reducible refine bl_drn ?_ _))).mono ?_); rintro e w3 ⟨rfl, m3, rfl⟩)
        | (go_at_call 51; (with_reducible refine (HI2.out _ (by repeat' (first | with_reducible exact Below.refl _ _ | with_reducible refine bl_dr ?_ | with_reducible refine bl_drn ?_ _))).mono ?_); rintro e w4 ⟨rfl, m4, rfl⟩)
        | (go_at_call 52; (with_reducible refine (HTS.out _ (by repeat' (first | with_reducible exact Below.refl _ _ | with_reducible refine bl_dr ?_ | with_reducible refine bl_drn ?_ _))).mono ?_); rintro e w5 ⟨rfl, hb5⟩; have hb6 : Below wc.heap.size wc w5 := bl_tr (by repeat' (first | with_reducible exact Below.refl _ _ | with_reducible refine bl_dr ?_ | with_reducible refine bl_drn ?_ _)) hb5; have hx5 := bl_blk hb6 HXX.out; have hy5 := bl_blk hb6 HYY.out; have x6 := cellN (i := 6) hx5 rfl; have y6 := cellN (i := 6) hy5 rfl; have x7 := cellN (i := 7) hx5 rfl; have y7 := cellN (i := 7) hy5 rfl; have x8 := cellN (i := 8) hx5 rfl; have y8 := cellN (i := 8) hy5 rfl; have x9 := cellN (i := 9) hx5 rfl; have y9 := cellN (i := 9) hy5 rfl; have x10 := cellN (i := 10) hx5 rfl; have y10 := cellN (i := 10) hy5 rfl; have x11 := cellN (i := 11) hx5 rfl; have y11 := cellN (i := 11) hy5 rfl; have x12 := cellN (i := 12) hx5 rfl; have y12 := cellN (i := 12) hy5 rfl; have x13 := cellN (i := 13) hx5 rfl; have y13 := cellN (i := 13) hy5 rfl; have clx := cell_lt hx5; have cly := cell_lt hy5; have HB5 := Lib.hid hb6; clear hb5 hb6 hx5 hy5)
        | fail)
      go_roundw
      case rel => exact ⟨j + 1, by go_num, by omega, Lib.hid (HBR.out.trans ((bl_tr HBC.out HB5.out).mono hbr))⟩
      case measure => simp [intOf]; omega
    · obtain rfl : j = l.length := by omega
      have hjl : ¬ ((l.length : Int) < (l.length : Int)) := by omega
      go_wp2_with (fail)
      go_ret
      exact ⟨rfl, HBR.out⟩
end Go.Proofs.YtllnamhgnbdkmaaGreatDoor
set_option linter.unusedVariables false
set_option linter.unusedSimpArgs false
namespace Go.Proofs.YtllnamhgnbdkmaaGreatDoor
open Go.RowKit Go.Shelf Go.Sort
theorem rdLines_small : ∀ (f : Nat) (s : List UInt8) (k : Nat) (l : List Gn), rdLines placesP f s = (k, some l) → ∀ n ∈ l, SmN n
  | 0, s, k, l, h => by cases h; intro n hn; cases hn
  | f + 1, s, k, l, h => by
    unfold rdLines at h
    split at h
    · cases h; intro n hn; cases hn
    · split at h
      · rename_i n0 hn0 hc
        split at h
        · rename_i k2 l2 h2
          cases h
          intro n hn
          rcases List.mem_cons.1 hn with rfl | hn
          · exact lineR_small hn0
          · exact rdLines_small f _ _ _ h2 n hn
        · cases h
      · cases h
theorem parseP_small (s : List UInt8) : (parseP placesP s).2.2.length ≤ 32 ∧ ∀ n ∈ (parseP placesP s).2.2, SmN n := by
  cases hr : rdLines placesP s.length s with
  | mk k o =>
    cases o with
    | none => unfold parseP; rw [hr]; simp
    | some l =>
      rw [parseP_of hr]
      by_cases hc : (chkAll l).2 = 0
      · rw [if_pos hc]
        exact ⟨chk_few hc, rdLines_small _ _ _ _ hr⟩
      · rw [if_neg hc]
        simp
set_option maxRecDepth 100000 in
set_option maxHeartbeats 4000000 in
theorem parses_any (s : List UInt8) (w : World) (hG : Gk w) :
    Calls Tryz.prog 4 #[.string ⟨s.toArray⟩] w fun e w' => e = .returned (.bool true) ∧ Below w.heap.size w w' := by
  have hsz : (ByteArray.mk s.toArray).size = s.length := by simp [ByteArray.size]
  have HAW : Hid (∀ W, Below w.heap.size w W → Calls Tryz.prog 11 #[] W fun e w' => e = .returned (.bool true) ∧ Below W.heap.size W w') := Lib.hid fun W hb => awake_any placesOf_any placesP_ok.two W (hG.below hb)
  by_cases hbig : 20000 < s.length
  · obtain ⟨B, hB, hBs⟩ : ∃ B : ByteArray, ByteArray.mk s.toArray = B ∧ B.size = s.length := ⟨_, rfl, hsz⟩
    rw [hB]
    have hlt : (20000 : Int) < (B.size : Int) := by omega
    clear hB hG hsz
    go_enter Tryz.func4, Tryz.ntmps4
    go_wp2_with (first
      | (go_at_call 11; (with_reducible refine (HAW.out _ (Below.refl _ _)).mono ?_); rintro e w9 ⟨rfl, hb9⟩; have HB9 := Lib.hid hb9; clear hb9)
      | fail)
    go_ret
    exact ⟨rfl, HB9.out⟩
  · have hp := parse_any placesOf_any placesP_ok.two s w (by omega) hG
    have hd := fun W => rdparse_any s W (by omega)
    obtain ⟨hl32, hsm⟩ := parseP_small s
    obtain ⟨k, e0, L, hpe⟩ : ∃ k e0 L, parseP placesP s = (k, e0, L) := ⟨_, _, _, rfl⟩
    rw [hpe] at hp hd hl32 hsm
    obtain ⟨B, hB, hBs⟩ : ∃ B : ByteArray, ByteArray.mk s.toArray = B ∧ B.size = s.length := ⟨_, rfl, hsz⟩
    rw [hB] at hp hd ⊢
    have HP := Lib.hid hp
    have HD := Lib.hid hd
    have hlt : ¬ (20000 : Int) < (B.size : Int) := by omega
    have HND := Lib.hid fun (W : World) (S : Nat → Prop) v (h : GsAt W S 6 v L) => nodes_any W S 6 v L h (Nat.le_trans hl32 (by decide)) (fun n hn => (hsm n hn).ty)
    have HSM := Lib.hid fun (W : World) (S S' : Nat → Prop) v v' (h : GsAt W S 6 v L) (h' : GsAt W S' 6 v' L) => rsame_any W S S' 6 6 v v' L h h' (Nat.le_trans hl32 (by decide)) (fun n hn => ⟨(hsm n hn).ty, Nat.le_trans (hsm n hn).ins (by decide), Nat.le_trans (hsm n hn).side (by decide)⟩)
    clear hB hG hsz hp hd hpe hl32 hsm
    go_enter Tryz.func4, Tryz.ntmps4
    go_wp2_with (first
      | (go_at_call 16; (with_reducible refine HP.out.mono ?_); rintro e w1 ⟨⟨v, rfl, hgs⟩, hb1⟩; obtain ⟨A, c, rfl⟩ := hgs.form; dsimp only at hgs ⊢; have HGS := Lib.hid hgs; have HB1 := Lib.hid hb1; clear hgs hb1)
      | (go_at_call 26; (with_reducible refine (HD.out _).mono ?_); rintro e w2 ⟨⟨v, rfl, hgs⟩, hb2⟩; obtain ⟨A2, c2, rfl⟩ := hgs.form; dsimp only at hgs ⊢; have HG2 := Lib.hid hgs; have HB2 := Lib.hid (bl_tr (bl_al HB1.out _) hb2); have HGS := Lib.hid ((HGS.out.below (bl_al (Below.refl _ _) _)).below hb2); have hx2 := bl_blk hb2 (heap_alloc_new w1 _); have x0 := cellN (i := 0) (x := .slice A L.length c) hx2 rfl; clear hgs hb2 hx2)
      | (go_at_call 19; (with_reducible refine (HND.out _ _ _ HGS.out).mono ?_); rintro e w3 ⟨⟨v, rfl, hgs⟩, hb3⟩; have HG3 := Lib.hid hgs; have HG2 := Lib.hid (HG2.out.below hb3); have HB3 := Lib.hid (bl_tr HB2.out hb3); clear hgs hb3)
      | (go_at_call 18; (with_reducible refine (HSM.out _ _ _ _ _ HG3.out HG2.out).mono ?_); rintro e w4 ⟨rfl, hb4⟩; have HB4 := Lib.hid (bl_tr HB3.out hb4); clear hb4)
      | (go_at_call 11; (with_reducible refine (HAW.out _ HB4.out).mono ?_); rintro e w9 ⟨rfl, hb9⟩; have HB9 := Lib.hid (bl_tr HB4.out hb9); clear hb9)
      | fail)
    go_ret
    exact ⟨rfl, HB9.out⟩
end Go.Proofs.YtllnamhgnbdkmaaGreatDoor
