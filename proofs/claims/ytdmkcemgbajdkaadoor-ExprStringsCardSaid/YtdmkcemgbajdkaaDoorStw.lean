/-
The walk of ExprStrings.
-/
import Derived.Test.YtdmkcemgbajdkaaDoorStp
import Derived.Test.YtdmkcemgbajdkaaDoorAwk
import Derived.Laws.RangeString
namespace Go.Proofs.YtdmkcemgbajdkaaDoor
open Go.RowKit

theorem leaf_str (w : World) (S : Nat → Prop) (t : ByteArray) : NdAt w S 1 (.agg #[.string ⟨#[116, 101, 120, 116, 95, 111, 102]⟩, .int .i64 0, .string t, .int .i64 0, .slice none 0 0, .slice none 0 0]) (ndS (bl t)) := by
  have := NdAt.leaf w S 0 textW 0 (bl t)
  rw [str_bl] at this
  exact this

set_option maxRecDepth 100000 in
set_option maxHeartbeats 4000000 in
theorem strings_walk (t : ByteArray) (w : World) (hG : Gl w) :
    Calls Tryd.prog 6 #[.string t] w fun e w' => e = .returned (.bool true) ∧ Below w.heap.size w w' := by
  have hGl := hG.kd.lt
  have HG := Lib.hid hG
  have HAWK := Lib.hid (fun (W : World) (h : Below w.heap.size w W) => awake_any W (hG.below h hGl))
  have hbl := bl_length t
  have hb0 := Below.refl w.heap.size w
  by_cases hs : 5000 < t.size
  · have hs2 : ((5000 : Int) < (t.size : Int)) := by omega
    clear hG
    go_enter Tryd.func6, Tryd.ntmps6
    go_wp2_with (fail)
    refine (HAWK.out _ hb0).mono ?_
    rintro e wz ⟨rfl, hbz⟩
    go_wp2_with (fail)
    go_ret
    exact ⟨rfl, hb0.trans (hbz.mono hb0.size)⟩
  have hs2 : ¬ ((5000 : Int) < (t.size : Int)) := by omega
  have hsh := exprShow_any 1 (fun _ => True) (.agg #[.string ⟨#[116, 101, 120, 116, 95, 111, 102]⟩, .int .i64 0, .string t, .int .i64 0, .slice none 0 0, .slice none 0 0]) (ndS (bl t)) w (leaf_str w _ t) (rg_S (by omega)) hG
  have HSH := Lib.hid hsh
  clear hsh hG
  by_cases hlong : 256 < t.size
  · have hl2 : ((256 : Int) < (t.size : Int)) := by omega
    have HSL := Lib.hid (show_long (t := bl t) (by omega))
    go_enter Tryd.func6, Tryd.ntmps6
    go_wp2_with (fail)
    refine HSH.out.mono ?_
    rw [HSL.out]
    rintro e w1 ⟨he, hb1⟩
    obtain rfl : e = .returned (.tuple #[.string ⟨#[]⟩, .int .i64 110]) := he
    clear HSH HSL
    go_wp2_with (fail)
    refine (HAWK.out _ hb1).mono ?_
    rintro e wz ⟨rfl, hbz⟩
    go_wp2_with (fail)
    go_ret
    exact ⟨rfl, hb1.trans (hbz.mono hb1.size)⟩
  have hl2 : ¬ ((256 : Int) < (t.size : Int)) := by omega
  have HSS := Lib.hid (show_str (t := bl t) (by omega))
  obtain ⟨m0, hp⟩ := parse_str (t := bl t) (by omega)
  have HP := Lib.hid hp
  have hq1 := quoL_le (bl t)
  have hq2 := quoL_ge (bl t)
  obtain ⟨q, hq⟩ : ∃ q, q = ByteArray.mk (quoS (bl t)).toArray := ⟨_, rfl⟩
  have hqb : bl q = quoS (bl t) := by rw [hq]; rfl
  have hqz : q.size = (quoL (bl t)).length + 2 := by rw [← bl_length, hqb]; simp [quoS]
  have HQB := Lib.hid hqb
  have HPR : Hid (∀ (i : Nat) (h : i < q.size), 32 ≤ q[i].toNat ∧ q[i].toNat ≤ 126) := fun i h => by
    have := quoS_print (bl t) (lkB (bl q) i) (by rw [← hqb, lkB_at (by rw [bl_length]; exact h)]; exact List.getElem_mem _)
    rw [bl_at q i h] at this
    exact this
  clear hp hqb
  go_enter Tryd.func6, Tryd.ntmps6
  go_wp2_with (fail)
  refine HSH.out.mono ?_
  rw [HSS.out]
  rintro e w1 ⟨he, hb1⟩
  obtain rfl : e = .returned (.tuple #[.string ⟨(quoS (bl t)).toArray⟩, .int .i64 0]) := he
  rw [← hq]
  have HQ := Lib.hid hq
  clear HSH HSS hq
  have hs1 := hb1.size
  go_wp2_with (fail)
  refine (exprParse_any q w1 (by omega) (HG.out.below hb1 hGl).kd).mono ?_
  rw [HQB.out, HP.out]
  rintro e w2 ⟨⟨v, rfl, hT⟩, hb2⟩
  obtain ⟨A, c, K, k, rfl⟩ := hT.form
  rw [show (ByteArray.mk (ndS (bl t)).text.toArray) = t from str_bl t]
  have hb12 := hb1.trans (hb2.mono hs1)
  clear hT hb2
  go_wp2_with (fail)
  have hb3 := hb12.alloc hb12.size (.cells #[.string ⟨(ndS (bl t)).op.toArray⟩, .int .i64 (ndS (bl t)).int, .string t, .int .i64 (ndS (bl t)).ty.kind, .slice A (ndS (bl t)).ty.args.length c, .slice K (ndS (bl t)).kids.length k] 28)
  have hs3 : (w2.alloc (.cells #[.string ⟨(ndS (bl t)).op.toArray⟩, .int .i64 (ndS (bl t)).int, .string t, .int .i64 (ndS (bl t)).ty.kind, .slice A (ndS (bl t)).ty.args.length c, .slice K (ndS (bl t)).kids.length k] 28)).heap.size = w2.heap.size + 1 := by simp
  have HC3 := Lib.hid (heap_alloc_new w2 (.cells #[.string ⟨(ndS (bl t)).op.toArray⟩, .int .i64 (ndS (bl t)).int, .string t, .int .i64 (ndS (bl t)).ty.kind, .slice A (ndS (bl t)).ty.args.length c, .slice K (ndS (bl t)).kids.length k] 28))
  generalize w2.alloc (.cells #[.string ⟨(ndS (bl t)).op.toArray⟩, .int .i64 (ndS (bl t)).int, .string t, .int .i64 (ndS (bl t)).ty.kind, .slice A (ndS (bl t)).ty.args.length c, .slice K (ndS (bl t)).kids.length k] 28) = w3 at *
  have hs2' := hb12.size
  go_loopw [] (fun wr => ∃ pos : Nat, pos ≤ q.size ∧ wr = w3.iter q pos) (fun wr => q.size - wr.iterPos (w2.heap.size + 1))
  case atStart => exact ⟨0, Nat.zero_le _, rfl⟩
  case round =>
    obtain ⟨pos, hpos, rfl⟩ := hrel
    by_cases hlt : pos < q.size
    · obtain ⟨hp1, hp2⟩ := HPR.out pos hlt
      have hnx : ∀ ty, (Instr.next (.pointer (some ⟨w3.heap.size, 0, none⟩)) true ty).run Tryd.prog (w3.iter q pos) = _ := fun ty => run_next_ascii w3 q pos ty hlt (by omega)
      rw [hs3] at hnx
      have hix := str_index q pos hlt (by omega)
      have hq1 : ¬ ((q[pos].toNat : Int) < 32) := by omega
      have hq2 : ¬ ((126 : Int) < (q[pos].toNat : Int)) := by omega
      go_wp2_with (fail)
      go_roundw
      case rel => exact ⟨pos + 1, by omega, rfl⟩
      case measure =>
        rw [← hs3, World.iterPos_iter, World.iterPos_iter]
        omega
    · have hnx : ∀ ty, (Instr.next (.pointer (some ⟨w3.heap.size, 0, none⟩)) true ty).run Tryd.prog (w3.iter q pos) = _ := fun ty => run_next_end w3 q pos ty hlt
      rw [hs3] at hnx
      have hb4 : Below w.heap.size w (w3.iter q pos) := hb3.alloc hb3.size (.stringIter q pos)
      have HC4 : Hid ((w3.iter q pos).heap[w2.heap.size]? = some (.cells #[.string ⟨(ndS (bl t)).op.toArray⟩, .int .i64 (ndS (bl t)).int, .string t, .int .i64 (ndS (bl t)).ty.kind, .slice A (ndS (bl t)).ty.args.length c, .slice K (ndS (bl t)).kids.length k] 28 (0, 0))) := (Below.heap_alloc w3 _ _ (by omega)).trans HC3.out
      have d0 := cell6_0 HC4.out
      have d2 := cell6_2 HC4.out
      have g1 : ((2 : Int) + (t.size : Int) ≤ (q.size : Int)) := by omega
      have g2 : ((q.size : Int) ≤ 2 + 3 * (t.size : Int)) := by omega
      clear HC3 HC4
      go_wp2_with (fail)
      refine (HAWK.out _ hb4).mono ?_
      rintro e wz ⟨rfl, hbz⟩
      go_wp2_with (fail)
      go_ret
      exact ⟨rfl, hb4.trans (hbz.mono hb4.size)⟩
end Go.Proofs.YtdmkcemgbajdkaaDoor
