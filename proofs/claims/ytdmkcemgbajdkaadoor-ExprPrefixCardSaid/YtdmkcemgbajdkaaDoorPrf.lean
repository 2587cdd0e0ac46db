/-
The walk of ExprPrefix.
-/
import Derived.Test.YtdmkcemgbajdkaaDoorAwk
namespace Go.Proofs.YtdmkcemgbajdkaaDoor
open Go.RowKit

theorem bl_take (s : ByteArray) (k : Nat) : bl (s.extract 0 k) = (bl s).take k := bl_to s k
theorem bl_cat (s m : ByteArray) (k : Nat) : bl (s.extract 0 (k + 1) ++ m) = (bl s).take (k + 1) ++ bl m := by
  rw [← bl_take]
  unfold bl
  simp

set_option maxRecDepth 100000 in
set_option maxHeartbeats 4000000 in
theorem prefix_walk (s mo : ByteArray) (w : World) (hG : Gl w) :
    Calls Tryd.prog 4 #[.string s, .string mo] w fun e w' => e = .returned (.bool true) ∧ Below w.heap.size w w' := by
  have hGl := hG.kd.lt
  have HG := Lib.hid hG
  have HAWK := Lib.hid (fun (W : World) (h : Below w.heap.size w W) => awake_any W (hG.below h hGl))
  have hbl := bl_length s
  have hb0 := Below.refl w.heap.size w
  clear hG
  by_cases hs : 3000 < s.size
  · have hs2 : ((3000 : Int) < (s.size : Int)) := by omega
    go_enter Tryd.func4, Tryd.ntmps4
    go_wp2_with (fail)
    refine (HAWK.out _ hb0).mono ?_
    rintro e wz ⟨rfl, hbz⟩
    go_wp2_with (fail)
    go_ret
    exact ⟨rfl, hb0.trans (hbz.mono hb0.size)⟩
  have hs2 : ¬ ((3000 : Int) < (s.size : Int)) := by omega
  by_cases hm : 500 < mo.size
  · have hm2 : ((500 : Int) < (mo.size : Int)) := by omega
    go_enter Tryd.func4, Tryd.ntmps4
    go_wp2_with (fail)
    refine (HAWK.out _ hb0).mono ?_
    rintro e wz ⟨rfl, hbz⟩
    go_wp2_with (fail)
    go_ret
    exact ⟨rfl, hb0.trans (hbz.mono hb0.size)⟩
  have hm2 : ¬ ((500 : Int) < (mo.size : Int)) := by omega
  go_enter Tryd.func4, Tryd.ntmps4
  go_wp2_with (fail)
  refine (exprParse_any s w (by omega) HG.out.kd).mono ?_
  cases hp : parseR Knd.parseT (bl s) with
  | mk m o =>
  cases o with
  | some n =>
    clear hp
    rintro e w1 ⟨⟨v, rfl, hT⟩, hb1⟩
    obtain ⟨A, c, K, k, rfl⟩ := hT.form
    have hb2 := hb1.alloc hb1.size (.cells #[.string ⟨n.op.toArray⟩, .int .i64 n.int, .string ⟨n.text.toArray⟩, .int .i64 n.ty.kind, .slice A n.ty.args.length c, .slice K n.kids.length k] 28)
    go_wp2_with (fail)
    first
    | (refine (HAWK.out _ hb2).mono ?_; rintro e wz ⟨rfl, hbz⟩; go_wp2_with (fail); go_ret; exact ⟨rfl, hb2.trans (hbz.mono hb2.size)⟩)
    | (refine (HAWK.out _ hb1).mono ?_; rintro e wz ⟨rfl, hbz⟩; go_wp2_with (fail); go_ret; exact ⟨rfl, hb1.trans (hbz.mono hb1.size)⟩)
  | none =>
    obtain ⟨hk, hk2, hk3⟩ := parse_prefix kp_ok hp
    have HK3 := Lib.hid hk3
    have HK2 := Lib.hid hk2
    clear hp hk2 hk3
    rintro e w1 ⟨he, hb1⟩
    obtain rfl : e = .returned (.tuple #[.agg #[.string ⟨#[]⟩, .int .i64 0, .string ⟨#[]⟩, .int .i64 0, .slice none 0 0, .slice none 0 0], .int .i64 (m : Int), .int .i64 40]) := he
    have hmi : ((m : Int) ≤ (s.size : Int)) := by omega
    have hb2 := hb1.alloc hb1.size (.cells #[.string ⟨#[]⟩, .int .i64 0, .string ⟨#[]⟩, .int .i64 0, .slice none 0 0, .slice none 0 0] 28)
    go_wp2_with (fail)
    refine (exprParse_any (s.extract 0 m) _ (by simp; omega) (HG.out.below (by first | exact hb2 | exact hb1) hGl).kd).mono ?_
    rw [bl_take]
    revert HK2
    cases hq : parseR Knd.parseT ((bl s).take m) with
    | mk m2 o2 =>
    intro HK2
    obtain rfl : m2 = m := HK2.out
    clear hq HK2
    cases o2 with
    | none =>
      rintro e w3 ⟨he, hb3⟩
      obtain rfl : e = .returned (.tuple #[.agg #[.string ⟨#[]⟩, .int .i64 0, .string ⟨#[]⟩, .int .i64 0, .slice none 0 0, .slice none 0 0], .int .i64 (m2 : Int), .int .i64 40]) := he
      have hb4 := (hb2.trans (hb3.mono hb2.size)).alloc (hb2.trans (hb3.mono hb2.size)).size (.cells #[.string ⟨#[]⟩, .int .i64 0, .string ⟨#[]⟩, .int .i64 0, .slice none 0 0, .slice none 0 0] 28)
      by_cases hks : m2 < s.size
      · have hp3 := HK3.out (bl mo) (by omega)
        have HP3 := Lib.hid hp3
        have hks2 : ((m2 : Int) < (s.size : Int)) := by omega
        clear hp3
        go_wp2_with (fail)
        refine (exprParse_any _ _ (by simp; omega) (HG.out.below hb4 hGl).kd).mono ?_
        rw [bl_cat, HP3.out]
        rintro e w5 ⟨he, hb5⟩
        obtain rfl : e = .returned (.tuple #[.agg #[.string ⟨#[]⟩, .int .i64 0, .string ⟨#[]⟩, .int .i64 0, .slice none 0 0, .slice none 0 0], .int .i64 (m2 : Int), .int .i64 40]) := he
        have hb6 := hb4.trans (hb5.mono hb4.size)
        have hb7 := hb6.alloc hb6.size (.cells #[.string ⟨#[]⟩, .int .i64 0, .string ⟨#[]⟩, .int .i64 0, .slice none 0 0, .slice none 0 0] 28)
        go_wp2_with (fail)
        first
        | (refine (HAWK.out _ hb7).mono ?_; rintro e wz ⟨rfl, hbz⟩; go_wp2_with (fail); go_ret; exact ⟨rfl, hb7.trans (hbz.mono hb7.size)⟩)
        | (refine (HAWK.out _ hb6).mono ?_; rintro e wz ⟨rfl, hbz⟩; go_wp2_with (fail); go_ret; exact ⟨rfl, hb6.trans (hbz.mono hb6.size)⟩)
      · have hks2 : ¬ ((m2 : Int) < (s.size : Int)) := by omega
        go_wp2_with (fail)
        refine (HAWK.out _ hb4).mono ?_
        rintro e wz ⟨rfl, hbz⟩
        go_wp2_with (fail)
        go_ret
        exact ⟨rfl, hb4.trans (hbz.mono hb4.size)⟩
    | some n2 =>
      rintro e w3 ⟨⟨v, rfl, hT⟩, hb3⟩
      obtain ⟨A, c, K, k, rfl⟩ := hT.form
      have hb4 := (hb2.trans (hb3.mono hb2.size)).alloc (hb2.trans (hb3.mono hb2.size)).size (.cells #[.string ⟨n2.op.toArray⟩, .int .i64 n2.int, .string ⟨n2.text.toArray⟩, .int .i64 n2.ty.kind, .slice A n2.ty.args.length c, .slice K n2.kids.length k] 28)
      by_cases hks : m2 < s.size
      · have hp3 := HK3.out (bl mo) (by omega)
        have HP3 := Lib.hid hp3
        have hks2 : ((m2 : Int) < (s.size : Int)) := by omega
        clear hp3
        go_wp2_with (fail)
        refine (exprParse_any _ _ (by simp; omega) (HG.out.below hb4 hGl).kd).mono ?_
        rw [bl_cat, HP3.out]
        rintro e w5 ⟨he, hb5⟩
        obtain rfl : e = .returned (.tuple #[.agg #[.string ⟨#[]⟩, .int .i64 0, .string ⟨#[]⟩, .int .i64 0, .slice none 0 0, .slice none 0 0], .int .i64 (m2 : Int), .int .i64 40]) := he
        have hb6 := hb4.trans (hb5.mono hb4.size)
        have hb7 := hb6.alloc hb6.size (.cells #[.string ⟨#[]⟩, .int .i64 0, .string ⟨#[]⟩, .int .i64 0, .slice none 0 0, .slice none 0 0] 28)
        go_wp2_with (fail)
        first
        | (refine (HAWK.out _ hb7).mono ?_; rintro e wz ⟨rfl, hbz⟩; go_wp2_with (fail); go_ret; exact ⟨rfl, hb7.trans (hbz.mono hb7.size)⟩)
        | (refine (HAWK.out _ hb6).mono ?_; rintro e wz ⟨rfl, hbz⟩; go_wp2_with (fail); go_ret; exact ⟨rfl, hb6.trans (hbz.mono hb6.size)⟩)
      · have hks2 : ¬ ((m2 : Int) < (s.size : Int)) := by omega
        go_wp2_with (fail)
        refine (HAWK.out _ hb4).mono ?_
        rintro e wz ⟨rfl, hbz⟩
        go_wp2_with (fail)
        go_ret
        exact ⟨rfl, hb4.trans (hbz.mono hb4.size)⟩
end Go.Proofs.YtdmkcemgbajdkaaDoor
