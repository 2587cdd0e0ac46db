/-
The walk of ExprNumbers.
-/
import Derived.Test.YtdmkcemgbajdkaaDoorNmp
import Derived.Test.YtdmkcemgbajdkaaDoorAwk
import Derived.Laws.RangeString
namespace Go.Proofs.YtdmkcemgbajdkaaDoor
open Go.RowKit

theorem w64 (x : Int) (h0 : -9223372036854775808 ≤ x) (h1 : x ≤ 9223372036854775807) : wrap64 x = x := by
  simp only [wrap64]
  omega
theorem leaf_num (w : World) (S : Nat → Prop) (n : Int) : NdAt w S 1 (.agg #[.string ⟨#[105, 110, 116]⟩, .int .i64 n, .string ⟨#[]⟩, .int .i64 0, .slice none 0 0, .slice none 0 0]) (ndI n) := NdAt.leaf w S 0 intW n []

set_option maxRecDepth 100000 in
set_option maxHeartbeats 4000000 in
theorem numbers_walk (n : Int) (h0 : -9223372036854775808 ≤ n) (h1 : n ≤ 9223372036854775807) (w : World) (hG : Gl w) :
    Calls Tryd.prog 5 #[.int .i64 n] w fun e w' => e = .returned (.bool true) ∧ Below w.heap.size w w' := by
  have hGl := hG.kd.lt
  have HG := Lib.hid hG
  have HAWK := Lib.hid (fun (W : World) (h : Below w.heap.size w W) => awake_any W (hG.below h hGl))
  have hb0 := Below.refl w.heap.size w
  have HSH := Lib.hid (exprShow_any 1 (fun _ => True) (.agg #[.string ⟨#[105, 110, 116]⟩, .int .i64 n, .string ⟨#[]⟩, .int .i64 0, .slice none 0 0, .slice none 0 0]) (ndI n) w (leaf_num w _ n) (rg_I h0 h1) hG)
  have HSS := Lib.hid (show_num h0 h1)
  obtain ⟨m0, hp⟩ := parse_num h0 h1
  have HP := Lib.hid hp
  obtain ⟨q, hq⟩ : ∃ q, q = ByteArray.mk (Lib.itoa n).toArray := ⟨_, rfl⟩
  have hqb : bl q = Lib.itoa n := by rw [hq]; rfl
  have hqz : q.size = (Lib.itoa n).length := by rw [← bl_length, hqb]
  have hq20 := itoa_20 h0 h1
  have hq1 := itoa_pos n
  rw [← hqz] at hq20 hq1
  clear hqz
  have HQB := Lib.hid hqb
  have HBY : Hid (∀ (i : Nat) (h : i < q.size), (q[i] = 45 ∧ i = 0) ∨ (q[i] ≠ 45 ∧ 48 ≤ q[i].toNat ∧ q[i].toNat ≤ 57)) := fun i h => by
    have hl : i < (bl q).length := by rw [bl_length]; exact h
    refine itoa_bytes n i q[i] ?_
    rw [← hqb, List.getElem?_eq_getElem hl]
    rfl
  have HSG : Hid (∀ (h : 0 < q.size), (q[0] = 45) ↔ n < 0) := fun h => by
    have := itoa_sign n
    rw [← hqb, bl_at q 0 h] at this
    exact this
  have HDV : Hid (dvN (bl q) = n.natAbs) := by show _ = _; rw [hqb]; exact dv_itoa n
  clear hp hqb hG
  go_enter Tryd.func5, Tryd.ntmps5
  go_wp2_with (fail)
  refine HSH.out.mono ?_
  rw [HSS.out]
  rintro e w1 ⟨he, hb1⟩
  obtain rfl : e = .returned (.tuple #[.string ⟨(Lib.itoa n).toArray⟩, .int .i64 0]) := he
  rw [← hq]
  have HQ := Lib.hid hq
  clear HSH HSS hq
  have hs1 := hb1.size
  go_wp2_with (fail)
  refine (exprParse_any q w1 (by omega) (HG.out.below hb1 hGl).kd).mono ?_
  rw [HQB.out, HP.out]
  rintro e w2 ⟨⟨v, rfl, hT⟩, hb2⟩
  obtain ⟨A, c, K, k, rfl⟩ := hT.form
  rw [show (ndI n).int = n from rfl, show (ndI n).op.toArray = #[105, 110, 116] from rfl]
  have hb12 := hb1.trans (hb2.mono hs1)
  have hs2' := hb12.size
  clear hT hb2
  have hb3 := hb12.alloc hb12.size (.cells #[.string ⟨#[105, 110, 116]⟩, .int .i64 n, .string ⟨(ndI n).text.toArray⟩, .int .i64 (ndI n).ty.kind, .slice A (ndI n).ty.args.length c, .slice K (ndI n).kids.length k] 28)
  have hs3 : (w2.alloc (.cells #[.string ⟨#[105, 110, 116]⟩, .int .i64 n, .string ⟨(ndI n).text.toArray⟩, .int .i64 (ndI n).ty.kind, .slice A (ndI n).ty.args.length c, .slice K (ndI n).kids.length k] 28)).heap.size = w2.heap.size + 1 := by simp
  have HC3 := Lib.hid (heap_alloc_new w2 (.cells #[.string ⟨#[105, 110, 116]⟩, .int .i64 n, .string ⟨(ndI n).text.toArray⟩, .int .i64 (ndI n).ty.kind, .slice A (ndI n).ty.args.length c, .slice K (ndI n).kids.length k] 28))
  have d0 := cell6_0 HC3.out
  have d1 := cell6_1 HC3.out
  have dl := cell_lt HC3.out
  have gz : ((q.size : Int) == 0) = false := beq_eq_false_iff_ne.2 (by omega)
  have g20 : ¬ ((20 : Int) < (q.size : Int)) := by omega
  go_wp2_with (fail)
  generalize w2.alloc (.cells #[.string ⟨#[105, 110, 116]⟩, .int .i64 n, .string ⟨(ndI n).text.toArray⟩, .int .i64 (ndI n).ty.kind, .slice A (ndI n).ty.args.length c, .slice K (ndI n).kids.length k] 28) = w3 at *
  clear d0 d1 dl
  go_loopw [8] (fun bk wr => ∃ pos : Nat, pos ≤ q.size ∧ wr = w3.iter q pos ∧ bk = .int .i64 (-((dvN ((bl q).take pos) : Nat) : Int))) (fun _ wr => q.size - wr.iterPos (w2.heap.size + 1))
  case atStart => exact ⟨0, Nat.zero_le _, rfl, rfl⟩
  case round =>
    obtain ⟨pos, hpos, rfl, rfl⟩ := hrel
    by_cases hlt : pos < q.size
    · have hbyt := HBY.out pos hlt
      have hasc : q[pos].toNat < 128 := by
        rcases hbyt with h | h
        · rw [h.1]; decide
        · omega
      have htk : (bl q).take (pos + 1) = (bl q).take pos ++ [q[pos]] := by
        rw [List.take_add_one, List.getElem?_eq_getElem (by rw [bl_length]; exact hlt)]
        rfl
      have hdv : dvN ((bl q).take (pos + 1)) = if q[pos] = 45 then dvN ((bl q).take pos) else 10 * dvN ((bl q).take pos) + (q[pos] - 48).toNat := by rw [htk, dvN_snoc]
      have hle : dvN ((bl q).take (pos + 1)) ≤ n.natAbs := by
        rw [← HDV.out]
        have := dvN_le ((bl q).take (pos + 1)) ((bl q).drop (pos + 1))
        rwa [List.take_append_drop] at this
      have HDS := Lib.hid hdv
      have hnx : ∀ ty, (Instr.next (.pointer (some ⟨w3.heap.size, 0, none⟩)) true ty).run Tryd.prog (w3.iter q pos) = _ := fun ty => run_next_ascii w3 q pos ty hlt hasc
      rw [hs3] at hnx
      have hix := str_index q pos hlt (by omega)
      clear htk
      rcases hbyt with ⟨hb45, hp0⟩ | ⟨hb45, hb48, hb57⟩
      · have HR : Hid (dvN ((bl q).take (pos + 1)) = dvN ((bl q).take pos)) := by show _ = _; rw [HDS.out, if_pos hb45]
        have g1 : ((q[pos].toNat : Int) == 45) = true := by rw [hb45]; rfl
        have g2 : ((pos : Int) == 0) = true := by rw [hp0]; rfl
        clear hb45 hp0 hdv hle
        generalize dvN ((bl q).take pos) = P at *
        generalize q[pos] = ch at *
        go_wp2_with (fail)
        go_roundw
        case rel => exact ⟨pos + 1, by omega, rfl, by rw [HR.out]⟩
        case measure =>
          rw [← hs3, World.iterPos_iter, World.iterPos_iter]
          omega
      · have HR : Hid (dvN ((bl q).take (pos + 1)) = 10 * dvN ((bl q).take pos) + (q[pos] - 48).toNat) := by show _ = _; rw [HDS.out, if_neg hb45]
        have hsub : (q[pos] - 48).toNat = q[pos].toNat - 48 := by
          rw [UInt8.toNat_sub_of_le _ _ (by show (48 : UInt8).toNat ≤ _; exact hb48)]
          rfl
        have hrg : 10 * dvN ((bl q).take pos) + (q[pos].toNat - 48) ≤ n.natAbs := by rw [← hsub, ← HR.out]; exact hle
        have g1 : ((q[pos].toNat : Int) == 45) = false := u8_beq_false (b := 45) hb45
        have HSB := Lib.hid hsub
        clear hb45 hdv hle hsub
        generalize dvN ((bl q).take pos) = P at *
        generalize q[pos] = ch at *
        have hw8 : IntKind.u8.wrap ((ch.toNat : Int) - 48) = (ch.toNat : Int) - 48 := by
          simp only [IntKind.wrap, IntKind.bits, IntKind.signed]
          simp
          omega
        have i1 : ¬ ((ch.toNat : Int) < 48) := by omega
        have i2 : ¬ ((57 : Int) < (ch.toNat : Int)) := by omega
        have hm1 : wrap64 (-(P : Int) * 10) = -(P : Int) * 10 := w64 _ (by omega) (by omega)
        have hm2 : wrap64 (-(P : Int) * 10 - ((ch.toNat : Int) - 48)) = -(P : Int) * 10 - ((ch.toNat : Int) - 48) := w64 _ (by omega) (by omega)
        go_wp2_with (fail)
        go_roundw
        case rel =>
          refine ⟨pos + 1, by omega, rfl, ?_⟩
          rw [HR.out, HSB.out]
          congr 1
          omega
        case measure =>
          rw [← hs3, World.iterPos_iter, World.iterPos_iter]
          omega
    · have hpe : pos = q.size := by omega
      have hbk : dvN ((bl q).take pos) = n.natAbs := by rw [hpe, List.take_of_length_le (by rw [bl_length]; exact Nat.le_refl _)]; exact HDV.out
      rw [hbk]
      have hnx : ∀ ty, (Instr.next (.pointer (some ⟨w3.heap.size, 0, none⟩)) true ty).run Tryd.prog (w3.iter q pos) = _ := fun ty => run_next_end w3 q pos ty hlt
      rw [hs3] at hnx
      have hb4 : Below w.heap.size w (w3.iter q pos) := hb3.alloc hb3.size (.stringIter q pos)
      generalize w3.iter q pos = w4 at *
      have hix0 := str_index q 0 (by omega) (by omega)
      rw [show (((0 : Nat) : Nat) : Int) = 0 from rfl] at hix0
      have hsg := HSG.out (by omega)
      clear hpe hbk HBY HC3
      by_cases hneg : n < 0
      · have g1 : ((q[0].toNat : Int) == 45) = true := by rw [hsg.2 hneg]; rfl
        have g2 : (-((n.natAbs : Nat) : Int) != n) = false := by simp; omega
        have g3 : ¬ (0 ≤ n) := by omega
        have g4 : n ≤ 0 := by omega
        clear hsg
        generalize q[0] = ch at *
        go_wp2_with (fail)
        refine (HAWK.out _ hb4).mono ?_
        rintro e wz ⟨rfl, hbz⟩
        go_wp2_with (fail)
        go_ret
        exact ⟨rfl, hb4.trans (hbz.mono hb4.size)⟩
      · have g1 : ((q[0].toNat : Int) == 45) = false := u8_beq_false (b := 45) (fun e => hneg (hsg.1 e))
        have g3 : 0 ≤ n := by omega
        have hng : wrap64 (-n) = -n := w64 _ (by omega) (by omega)
        have g2 : (-((n.natAbs : Nat) : Int) != -n) = false := by simp; omega
        clear hsg
        generalize q[0] = ch at *
        by_cases hz : n ≤ 0
        · go_wp2_with (fail)
          refine (HAWK.out _ hb4).mono ?_
          rintro e wz ⟨rfl, hbz⟩
          go_wp2_with (fail)
          go_ret
          exact ⟨rfl, hb4.trans (hbz.mono hb4.size)⟩
        · have HN := Lib.hid (parse_nought (n := n) (by omega))
          go_wp2_with (fail)
          refine (exprParse_any _ w4 (by rw [ByteArray.size_append, show (ByteArray.mk #[48]).size = 1 from rfl]; omega) (HG.out.below hb4 hGl).kd).mono ?_
          rw [show bl (ByteArray.mk #[48] ++ q) = 48 :: Lib.itoa n from by rw [← HQB.out]; unfold bl; simp, HN.out]
          rintro e w5 ⟨he, hb5⟩
          obtain rfl : e = .returned (.tuple #[.agg #[.string ⟨#[]⟩, .int .i64 0, .string ⟨#[]⟩, .int .i64 0, .slice none 0 0, .slice none 0 0], .int .i64 ((1 : Nat) : Int), .int .i64 40]) := he
          have hb6 := hb4.trans (hb5.mono hb4.size)
          have hb7 := hb6.alloc hb6.size (.cells #[.string ⟨#[]⟩, .int .i64 0, .string ⟨#[]⟩, .int .i64 0, .slice none 0 0, .slice none 0 0] 28)
          go_wp2_with (fail)
          first
          | (refine (HAWK.out _ hb7).mono ?_; rintro e wz ⟨rfl, hbz⟩; go_wp2_with (fail); go_ret; exact ⟨rfl, hb7.trans (hbz.mono hb7.size)⟩)
          | (refine (HAWK.out _ hb6).mono ?_; rintro e wz ⟨rfl, hbz⟩; go_wp2_with (fail); go_ret; exact ⟨rfl, hb6.trans (hbz.mono hb6.size)⟩)
end Go.Proofs.YtdmkcemgbajdkaaDoor
