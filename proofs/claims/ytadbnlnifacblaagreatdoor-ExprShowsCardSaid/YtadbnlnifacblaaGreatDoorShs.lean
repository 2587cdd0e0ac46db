/-
The document's answer for package expr: Show.
-/
import Derived.Test.YtadbnlnifacblaaGreatDoorShp
import Derived.Test.YtadbnlnifacblaaGreatDoorKh
import Derived.Test.YtadbnlnifacblaaGreatDoorQp
import Derived.Test.YtadbnlnifacblaaGreatDoorQt
import Derived.Test.YtadbnlnifacblaaGreatDoorOsn
import Derived.Deep.RegionHeld3
import Derived.Deep.DeepCutAuto
namespace Go.Proofs.YtadbnlnifacblaaGreatDoor
open Go.RowKit
theorem str_app (a b : ByteArray) : (a ++ b).data.toList = a.data.toList ++ b.data.toList := by simp
theorem size_list (a : ByteArray) : a.size = a.data.toList.length := Array.length_toList.symm
theorem str_mk {a : ByteArray} {l : List UInt8} (h : a.data.toList = l) : a = ⟨l.toArray⟩ := by
  apply ByteArray.ext
  apply Array.ext'
  simpa using h
theorem TxI.puts {w wr w' : World} {v v' : Value} {acc : List UInt8} {o : Obj} (bs : List UInt8) (h : TxI w v acc wr) (ho : w'.ownsRow w.heap.size 5 1 v' (acc.length + bs.length) (bcl acc ++ bcl bs)) (hg : (wr.alloc o).grownBy w' v.ownBlock) : TxI w v' (acc ++ bs) w' :=
  ⟨(h.below.alloc h.below.size o).grown hg (Nat.le_trans h.below.size (by simp)) (fun k hk => (h.own.lt k hk).1), by rw [show bcl (acc ++ bs) = bcl acc ++ bcl bs by simp [bcl], List.length_append]; exact ho⟩
set_option maxRecDepth 100000 in
set_option maxHeartbeats 4000000 in
theorem show_d : ∀ (e d i : Nat) (S : Nat → Prop) (v : Value) (n : Nd) (w : World), FewN e n → IntN i n → NdAt w S d v n → e ≤ 1000000000 →
    Calls Tryz.prog 23 #[v] w fun e' w' => e' = .returned (.string ⟨(showD e n).toArray⟩) ∧ Below w.heap.size w w'
  | 0, _, _, _, _, _, _, h, _, _, _ => h.elim
  | _ + 1, _, 0, _, _, _, _, _, h, _, _ => h.elim
  | _ + 1, 0, _ + 1, _, _, _, _, _, _, h, _ => h.elim
  | e + 1, d + 1, i + 1, S, v, n, w, hF, hI, hT, heb => by
    obtain ⟨hft, hfo, hfn, hfl, hfk⟩ := hF
    obtain ⟨hi0, hi1, hik⟩ := hI
    have IH := show_d e d i S
    have HIH := Lib.hid (fun v n w h1 h2 h3 => IH v n w h1 h2 h3 (by omega))
    have HEB := Lib.hid (show e ≤ 1000000000 by omega)
    have HFK := Lib.hid hfk
    have HIK := Lib.hid hik
    have HNAR := Lib.hid hfn
    obtain ⟨A, c, K, k, rfl, ⟨dt, hty⟩, hlk, hA⟩ := hT
    have HA := Lib.hid hA
    have hb1 := (Below.refl w.heap.size w).alloc (Nat.le_refl _) (.cells #[.string ⟨n.op.toArray⟩, .int .i64 n.int, .string ⟨n.text.toArray⟩, .int .i64 n.ty.kind, .slice A n.ty.args.length c, .slice K n.kids.length k] 37)
    have hs1 : (w.alloc (.cells #[.string ⟨n.op.toArray⟩, .int .i64 n.int, .string ⟨n.text.toArray⟩, .int .i64 n.ty.kind, .slice A n.ty.args.length c, .slice K n.kids.length k] 37)).heap.size = w.heap.size + 1 := by simp
    have HTY := Lib.hid (hty.move fun x _ hl => ⟨(trivial : (fun _ => True) x), fun _ => World.cell?_of_block (hb1.block x hl)⟩)
    have HC1 := Lib.hid (heap_alloc_new w (.cells #[.string ⟨n.op.toArray⟩, .int .i64 n.int, .string ⟨n.text.toArray⟩, .int .i64 n.ty.kind, .slice A n.ty.args.length c, .slice K n.kids.length k] 37))
    have HB1 := Lib.hid hb1
    have HIT := Lib.hid (itoa_le n.int hi0 hi1)
    have HDG := Lib.hid (fun W => digits_d 20 n.int W hi0 hi1 (by omega))
    clear hA IH hfk hik hfn hty hb1 heb
    by_cases h1 : n.op = intW
    · have g1 : (n.op == [105, 110, 116]) = true := by rw [h1]; rfl
      have HS : Hid (showD (e + 1) n = Lib.itoa n.int) := by show _ = _; rw [showD, if_pos h1]
      clear h1
      go_enter Tryz.func23, Tryz.ntmps23
      go_wp2_with (fail)
      refine (HDG.out _).mono ?_
      rintro e w2 ⟨rfl, hb2⟩
      go_wp2_with (fail)
      refine bodyPost_ret (v := .string ⟨(Lib.itoa n.int).toArray⟩) (by simp [results, Tryz.results23, go_sem]) rfl ?_
      exact ⟨by rw [HS.out], HB1.out.trans (hb2.mono (by omega))⟩
    have g1 : (n.op == [105, 110, 116]) = false := beq_eq_false_iff_ne.2 h1
    by_cases h2 : n.op = nameW
    · have g2 : (n.op == [110, 97, 109, 101]) = true := by rw [h2]; rfl
      have HS : Hid (showD (e + 1) n = n.text) := by show _ = _; rw [showD, if_neg h1, if_pos h2]
      clear h1 h2
      go_enter Tryz.func23, Tryz.ntmps23
      go_wp2_with (fail)
      refine bodyPost_ret (v := .string ⟨n.text.toArray⟩) (by simp [results, Tryz.results23, go_sem]) rfl ?_
      exact ⟨by rw [HS.out], HB1.out⟩
    have g2 : (n.op == [110, 97, 109, 101]) = false := beq_eq_false_iff_ne.2 h2
    by_cases h3 : n.op = sideW
    · have g3 : (n.op == [115, 105, 100, 101]) = true := by rw [h3]; rfl
      have HS : Hid (showD (e + 1) n = sideW ++ [40] ++ Lib.itoa n.int ++ [41]) := by show _ = _; rw [showD, if_neg h1, if_neg h2, if_pos h3]
      clear h1 h2 h3
      obtain ⟨s, hs0⟩ : ∃ s : ByteArray, s = ⟨(Lib.itoa n.int).toArray⟩ := ⟨_, rfl⟩
      have hsz : s.size ≤ 21 := by rw [hs0]; simpa [ByteArray.size] using HIT.out
      have HSS : Hid (s.data.toList = Lib.itoa n.int) := by show _ = _; rw [hs0]
      rw [← hs0] at HDG
      clear hs0
      go_enter Tryz.func23, Tryz.ntmps23
      go_wp2_with (fail)
      refine (HDG.out _).mono ?_
      rintro e w2 ⟨rfl, hb2⟩
      have hz1 : ¬ 9223372036854775807 < 5 + s.size := by omega
      have hz2 : ¬ 9223372036854775807 < 5 + s.size + 1 := by omega
      go_wp2_with (fail)
      refine bodyPost_ret (v := .string ((⟨#[115, 105, 100, 101, 40]⟩ : ByteArray) ++ s ++ (⟨#[41]⟩ : ByteArray))) (by simp [results, Tryz.results23, go_sem]) rfl ?_
      refine ⟨?_, HB1.out.trans (hb2.mono (by omega))⟩
      rw [HS.out, str_mk (a := (⟨#[115, 105, 100, 101, 40]⟩ : ByteArray) ++ s ++ (⟨#[41]⟩ : ByteArray)) (l := sideW ++ [40] ++ Lib.itoa n.int ++ [41])]
      rw [str_app, str_app, HSS.out]
      rfl
    have g3 : (n.op == [115, 105, 100, 101]) = false := beq_eq_false_iff_ne.2 h3
    by_cases h4 : n.op = nilW ∨ n.op = noneW
    · have hsd : showD (e + 1) n = if (Knd.measureT 6 n.ty).isSome then n.op ++ [40] ++ Knd.textT 6 n.ty ++ [41] else [63] := by rw [showD, if_neg h1, if_neg h2, if_neg h3, if_pos h4]
      have HSD := Lib.hid hsd
      have hg : (n.op == [110, 105, 108]) = true ∨ ((n.op == [110, 105, 108]) = false ∧ (n.op == [110, 111, 110, 101]) = true) := by
        rcases h4 with h | h
        · exact .inl (by rw [h]; rfl)
        · exact .inr ⟨by rw [h]; rfl, by rw [h]; rfl⟩
      obtain ⟨o, ho0⟩ : ∃ o : List UInt8, o = n.op := ⟨_, rfl⟩
      have hol : o.length ≤ 4 := by
        rw [ho0]
        rcases h4 with h | h <;> rw [h] <;> decide
      have HRT := Lib.hid (fun W => Knd.rright_any 6 dt 30 (fun _ => True) (.agg #[.int .i64 n.ty.kind, .slice A n.ty.args.length c]) n.ty W (Nat.le_refl _) HNAR.out)
      clear h1 h2 h3 h4 hsd
      cases hm : Knd.measureT 6 n.ty with
      | none =>
        have HS : Hid (showD (e + 1) n = [63]) := by show _ = _; rw [HSD.out, hm]; rfl
        have HOK : Hid (Knd.okT 6 n.ty = false) := by show _ = _; unfold Knd.okT; rw [hm]; rfl
        clear hm HSD
        rcases hg with g4 | ⟨g4, g5⟩
        · go_enter Tryz.func23, Tryz.ntmps23
          go_wp2_with (fail)
          refine (HRT.out _ HTY.out).mono ?_
          rw [HOK.out]
          rintro e w2 ⟨rfl, hb2⟩
          go_wp2_with (fail)
          refine bodyPost_ret (v := .string ⟨#[63]⟩) (by simp [results, Tryz.results23, go_sem]) rfl ?_
          exact ⟨by rw [HS.out], HB1.out.trans (hb2.mono (by omega))⟩
        · go_enter Tryz.func23, Tryz.ntmps23
          go_wp2_with (fail)
          refine (HRT.out _ HTY.out).mono ?_
          rw [HOK.out]
          rintro e w2 ⟨rfl, hb2⟩
          go_wp2_with (fail)
          refine bodyPost_ret (v := .string ⟨#[63]⟩) (by simp [results, Tryz.results23, go_sem]) rfl ?_
          exact ⟨by rw [HS.out], HB1.out.trans (hb2.mono (by omega))⟩
      | some q =>
        have HS : Hid (showD (e + 1) n = n.op ++ [40] ++ Knd.textT 6 n.ty ++ [41]) := by show _ = _; rw [HSD.out, hm]; rfl
        have HOK : Hid (Knd.okT 6 n.ty = true) := by show _ = _; unfold Knd.okT; rw [hm]; rfl
        have hsm := Knd.textT_small 6 n.ty q hm
        have HSH := Lib.hid (fun W (h : Below (w.alloc (.cells #[.string ⟨n.op.toArray⟩, .int .i64 n.int, .string ⟨n.text.toArray⟩, .int .i64 n.ty.kind, .slice A n.ty.args.length c, .slice K n.kids.length k] 37)).heap.size (w.alloc (.cells #[.string ⟨n.op.toArray⟩, .int .i64 n.int, .string ⟨n.text.toArray⟩, .int .i64 n.ty.kind, .slice A n.ty.args.length c, .slice K n.kids.length k] 37)) W) => Knd.rshow_any 6 dt q _ _ n.ty W (Nat.le_refl _) hm (HTY.out.below h))
        obtain ⟨s, hs0⟩ : ∃ s : ByteArray, s = ⟨(Knd.textT 6 n.ty).toArray⟩ := ⟨_, rfl⟩
        have hsz : s.size ≤ 567 := by rw [hs0]; simpa [ByteArray.size] using hsm
        have HSS : Hid (s.data.toList = Knd.textT 6 n.ty) := by show _ = _; rw [hs0]
        rw [← hs0] at HSH
        clear hs0 hm HSD hsm
        rcases hg with g4 | ⟨g4, g5⟩
        · go_enter Tryz.func23, Tryz.ntmps23
          go_wp2_with (fail)
          refine (HRT.out _ HTY.out).mono ?_
          rw [HOK.out]
          rintro e w2 ⟨rfl, hb2⟩
          go_upto_region 12 with (fail)
          have HC2 := below_at hb2 HC1.out
          have x0 := cell6_0 HC2
          have x3 := cell6_3 HC2
          have x4 := cell6_4 HC2
          have xl := cell_lt HC2
          have hol : n.op.length ≤ 4 := by rw [← ho0]; exact hol
          have hz1 : ¬ 9223372036854775807 < n.op.length + 1 := by omega
          have hz2 : ¬ 9223372036854775807 < n.op.length + 1 + s.size := by omega
          have hz3 : ¬ 9223372036854775807 < n.op.length + 1 + s.size + 1 := by omega
          have hbw : Below (w.alloc (.cells #[.string ⟨n.op.toArray⟩, .int .i64 n.int, .string ⟨n.text.toArray⟩, .int .i64 n.ty.kind, .slice A n.ty.args.length c, .slice K n.kids.length k] 37)).heap.size (w.alloc (.cells #[.string ⟨n.op.toArray⟩, .int .i64 n.int, .string ⟨n.text.toArray⟩, .int .i64 n.ty.kind, .slice A n.ty.args.length c, .slice K n.kids.length k] 37)) w2.drew := hb2.drew
          have HW2 := Lib.hid hb2
          go_region_with (go_at_call 58; refine (HSH.out _ hbw).mono ?_; rintro e w5 ⟨rfl, hb5⟩; have y := (hb5.block w.heap.size (by simpa using xl)).trans HC2; have y0 := cell6_0 y; have y3 := cell6_3 y; have y4 := cell6_4 y; clear y)
          all_goals (go_wp2_with (fail))
          all_goals refine bodyPost_ret (v := .string ((((⟨n.op.toArray⟩ : ByteArray) ++ (⟨#[40]⟩ : ByteArray)) ++ s) ++ (⟨#[41]⟩ : ByteArray))) (by simp [results, Tryz.results23, go_sem]) rfl ?_
          all_goals refine ⟨?_, HB1.out.trans (((HW2.out.drew).trans (hb5.mono (by simpa using HW2.out.size))).mono (by omega))⟩
          all_goals rw [HS.out, str_mk (a := (((⟨n.op.toArray⟩ : ByteArray) ++ (⟨#[40]⟩ : ByteArray)) ++ s) ++ (⟨#[41]⟩ : ByteArray)) (l := n.op ++ [40] ++ Knd.textT 6 n.ty ++ [41])]
          all_goals (rw [str_app, str_app, str_app, HSS.out])
        · go_enter Tryz.func23, Tryz.ntmps23
          go_wp2_with (fail)
          refine (HRT.out _ HTY.out).mono ?_
          rw [HOK.out]
          rintro e w2 ⟨rfl, hb2⟩
          go_upto_region 12 with (fail)
          have HC2 := below_at hb2 HC1.out
          have x0 := cell6_0 HC2
          have x3 := cell6_3 HC2
          have x4 := cell6_4 HC2
          have xl := cell_lt HC2
          have hol : n.op.length ≤ 4 := by rw [← ho0]; exact hol
          have hz1 : ¬ 9223372036854775807 < n.op.length + 1 := by omega
          have hz2 : ¬ 9223372036854775807 < n.op.length + 1 + s.size := by omega
          have hz3 : ¬ 9223372036854775807 < n.op.length + 1 + s.size + 1 := by omega
          have hbw : Below (w.alloc (.cells #[.string ⟨n.op.toArray⟩, .int .i64 n.int, .string ⟨n.text.toArray⟩, .int .i64 n.ty.kind, .slice A n.ty.args.length c, .slice K n.kids.length k] 37)).heap.size (w.alloc (.cells #[.string ⟨n.op.toArray⟩, .int .i64 n.int, .string ⟨n.text.toArray⟩, .int .i64 n.ty.kind, .slice A n.ty.args.length c, .slice K n.kids.length k] 37)) w2.drew := hb2.drew
          have HW2 := Lib.hid hb2
          go_region_with (go_at_call 58; refine (HSH.out _ hbw).mono ?_; rintro e w5 ⟨rfl, hb5⟩; have y := (hb5.block w.heap.size (by simpa using xl)).trans HC2; have y0 := cell6_0 y; have y3 := cell6_3 y; have y4 := cell6_4 y; clear y)
          all_goals (go_wp2_with (fail))
          all_goals refine bodyPost_ret (v := .string ((((⟨n.op.toArray⟩ : ByteArray) ++ (⟨#[40]⟩ : ByteArray)) ++ s) ++ (⟨#[41]⟩ : ByteArray))) (by simp [results, Tryz.results23, go_sem]) rfl ?_
          all_goals refine ⟨?_, HB1.out.trans (((HW2.out.drew).trans (hb5.mono (by simpa using HW2.out.size))).mono (by omega))⟩
          all_goals rw [HS.out, str_mk (a := (((⟨n.op.toArray⟩ : ByteArray) ++ (⟨#[40]⟩ : ByteArray)) ++ s) ++ (⟨#[41]⟩ : ByteArray)) (l := n.op ++ [40] ++ Knd.textT 6 n.ty ++ [41])]
          all_goals (rw [str_app, str_app, str_app, HSS.out])
    have g4 : (n.op == [110, 105, 108]) = false := beq_eq_false_iff_ne.2 fun h => h4 (.inl h)
    have g5 : (n.op == [110, 111, 110, 101]) = false := beq_eq_false_iff_ne.2 fun h => h4 (.inr h)
    by_cases h5 : n.op = textW
    · have hsd : showD (e + 1) n = quoS n.text := by rw [showD, if_neg h1, if_neg h2, if_neg h3, if_neg h4, if_pos h5]
      have g6 : (n.op == [116, 101, 120, 116, 95, 111, 102]) = true := by rw [h5]; rfl
      have HSD := Lib.hid hsd
      obtain ⟨i0, hi, hq0, hq1, hq2⟩ := info_parts info5
      have hIT := fun (n : Nat) (hn : n < 256) (W : World) => itself_d n hn W
      have HITS := Lib.hid hIT
      obtain ⟨w1, hw1⟩ : ∃ w1, w1 = w.alloc (.cells #[.string ⟨n.op.toArray⟩, .int .i64 n.int, .string ⟨n.text.toArray⟩, .int .i64 n.ty.kind, .slice A n.ty.args.length c, .slice K n.kids.length k] 37) := ⟨_, rfl⟩
      rw [← hw1] at HC1 HB1 hs1
      have HW1 := Lib.hid hw1
      clear h1 h2 h3 h4 h5 hsd hIT hw1
      go_enter Tryz.func23, Tryz.ntmps23
      go_wp2_with (fail)
      go_loopw [3, 4] (fun ov iv wr => ∃ (j : Nat) (acc : List UInt8), iv = .int .i64 (j : Int) ∧ j ≤ n.text.length ∧ acc.length ≤ 1 + 3 * j ∧ Hid (acc = 34 :: quoL (n.text.take j)) ∧ Hid (TxI w1 ov acc wr)) (fun _ iv _ => 20000 - (intOf iv).toNat)
      case atStart =>
        refine ⟨0, [34], rfl, Nat.zero_le _, Nat.le_refl _, by show _ = _; simp [quoL], ?_⟩
        rw [← HW1.out]
        exact ⟨(Below.refl w1.heap.size w1).alloc (Nat.le_refl _) _, by rw [hs1]; exact hs1 ▸ World.ownsRow_lit w1 #[.int .u8 34] 1 (Nat.le_refl _) (by decide) rfl⟩
      case round =>
        obtain ⟨j, acc, rfl, hj, hacc, HA2, HI⟩ := hrel
        obtain ⟨AV, CV, rfl⟩ := own_slice HI.out.own
        have hsr := HI.out.below.size
        have HCR := Lib.hid (below_at HI.out.below HC1.out)
        have x2 := cell6_2 HCR.out
        have xl := cell_lt HCR.out
        by_cases hlt : j < n.text.length
        · have hjl : ((j : Int) < (n.text.length : Int)) := by omega
          have hix := str_index ⟨n.text.toArray⟩ j (by simpa [ByteArray.size] using hlt) (by simp [ByteArray.size]; omega) wr
          rw [← bl_at ⟨n.text.toArray⟩ j (by simpa [ByteArray.size] using hlt), show bl ⟨n.text.toArray⟩ = n.text by simp [bl]] at hix
          have htk : n.text.take (j + 1) = n.text.take j ++ [lkB n.text j] := by
            rw [List.take_add_one]
            unfold lkB
            rw [List.getElem?_eq_getElem hlt]
            rfl
          obtain ⟨b, hb⟩ : ∃ b, b = lkB n.text j := ⟨_, rfl⟩
          rw [← hb] at hix htk
          have HTK := Lib.hid htk
          clear hb htk
          have hlb : b.toNat ≤ 255 := by have := b.toNat_lt; omega
          have HC := Lib.hid (HITS.out b.toNat b.toNat_lt wr)
          rw [show UInt8.ofNat b.toNat = b from UInt8.ofNat_toNat] at HC
          cases hpl : isPl b with
          | true =>
            rw [hpl] at HC
            have HA3 : Hid (acc ++ [b] = 34 :: quoL (n.text.take (j + 1))) := by
              show _ = _
              rw [HTK.out, HA2.out]
              simp [quoL, quoB, hpl]
            clear hpl
            go_wp2_with (fail)
            refine HC.out.mono ?_
            rintro e' w2 ⟨rfl, rfl⟩
            go_wp2_with (at_builtin; refine wpList_append_own _ rfl _ _ 99 rfl w1.heap.size 5 i0 (.int .u8 0) 1 1 Tryz.underlying99 hi hq0 hq1 hq2 rfl (by decide) (.slice AV acc.length CV) acc.length (bcl acc) rfl (HI.out.own.kept (row := none) ⟨rfl, rfl, rfl, by simp, fun k hk _ => Below.heap_alloc w2 _ k hk⟩ (by cases AV <;> simp [Value.ownBlock])) ⟨w2.heap.size, 0, none⟩ 1 1 [.int .u8 ((b.toNat : Int))] rfl rfl (cell_one_new' _ _ _ _ (by simp)) (by intro u hu; simp at hu; subst hu; rfl) (by unfold maxLen; omega) (by omega) (by simp; omega) ?_; intro v7 w7 hown7 hg7 _)
            go_roundw
            case rel => exact ⟨j + 1, acc ++ [b], by go_num, by omega, by simp; omega, HA3, HI.out.put hown7 hg7⟩
            case measure => simp [intOf]; omega
          | false =>
            rw [hpl] at HC
            have HA3 : Hid (acc ++ [92, hexD (b.toNat / 16), hexD (b.toNat % 16)] = 34 :: quoL (n.text.take (j + 1))) := by
              show _ = _
              rw [HTK.out, HA2.out]
              simp [quoL, quoB, hpl]
            clear hpl
            go_wp2_with (fail)
            refine HC.out.mono ?_
            rintro e' w2 ⟨rfl, rfl⟩
            go_upto_region 21 with (fail)
            obtain ⟨h, hh⟩ : ∃ h, h = b.toNat / 16 := ⟨_, rfl⟩
            obtain ⟨l, hl⟩ : ∃ l, l = b.toNat % 16 := ⟨_, rfl⟩
            have v1 : IntKind.u8.wrap ((b.toNat : Int) / 16) = (h : Int) := by rw [IntWalk.u8_in _ (by omega)]; omega
            have v2 : IntKind.u8.wrap ((b.toNat : Int) % 16) = (l : Int) := by rw [IntWalk.u8_in _ (by omega)]; omega
            have v3 : IntKind.u8.wrap ((b.toNat : Int).tmod 16) = (l : Int) := by rw [Int.tmod_eq_emod_of_nonneg (by omega)]; exact v2
            have v4 : (b.toNat : Int).tmod 16 = (l : Int) := by rw [Int.tmod_eq_emod_of_nonneg (by omega)]; omega
            have hh16 : h < 16 := by omega
            have hl16 : l < 16 := by omega
            have u2 := fun W => hex_at h hh16 W
            have u3 := fun W => hex_at l hl16 W
            rw [← hh, ← hl] at HA3
            clear hh hl
            have hn3 : acc.length + 3 ≤ 40000 := by omega
            go_region_law (first | (refine step_append_lies _ (by rfl) _ _ _ (by rfl) w1.heap.size 5 i0 (.int .u8 0) 1 1 Tryz.underlying99 hi hq0 hq1 hq2 rfl (by omega) (.slice AV acc.length CV) acc.length (bcl acc) (by rfl) ((HI.out.own.alloc _).drew) ⟨w2.heap.size, 0, none⟩ 3 3 [.int .u8 92, .int .u8 ((hexD h).toNat : Int), .int .u8 ((hexD l).toNat : Int)] (by rfl) (by rfl) (World.news_of_block (cs := #[.int .u8 92, .int .u8 ((hexD h).toNat : Int), .int .u8 ((hexD l).toNat : Int)]) (t := 5) (fr := (0, 0)) (heap_alloc_new w2 _)) (by simp [Value.oneCell']) (by omega) (by unfold maxLen; omega) (by omega) (by simp; omega) (w2.heap.size + 1) (by simp) ?_; intro gg cap w7 hown7 hg7 hat7 hlt7) | fail)
            all_goals (
              have hgd : (w2.alloc (.cells #[.int .u8 92, .int .u8 ((hexD h).toNat : Int), .int .u8 ((hexD l).toNat : Int)] 5)).grownBy w7 (Value.slice AV acc.length CV).ownBlock := ⟨hg7.os, hg7.tape, hg7.output, hg7.size, hg7.block⟩
              have HT7 := Lib.hid (HI.out.puts [92, hexD h, hexD l] hown7 hgd)
              clear hgd hg7 hown7 hat7
              go_wp2_with (fail)
              go_roundw
              case rel => exact ⟨j + 1, acc ++ [92, hexD h, hexD l], by go_num, by omega, by simp; omega, HA3, HT7⟩
              case measure => simp [intOf]; omega)
        · have hjl : ¬ ((j : Int) < (n.text.length : Int)) := by omega
          have HA3 : Hid (acc ++ [34] = quoS n.text) := by
            show _ = _
            rw [HA2.out, List.take_of_length_le (by omega)]
            simp [quoS]
          go_wp2_with (at_builtin; refine wpList_append_own _ rfl _ _ 99 rfl w1.heap.size 5 i0 (.int .u8 0) 1 1 Tryz.underlying99 hi hq0 hq1 hq2 rfl (by decide) (.slice AV acc.length CV) acc.length (bcl acc) rfl (HI.out.own.kept (row := none) ⟨rfl, rfl, rfl, by simp, fun k hk _ => Below.heap_alloc wr _ k hk⟩ (by cases AV <;> simp [Value.ownBlock])) ⟨wr.heap.size, 0, none⟩ 1 1 [.int .u8 34] rfl rfl (cell_one_new' _ _ _ _ (by simp)) (by intro u hu; simp at hu; subst hu; rfl) (by unfold maxLen; omega) (by omega) (by simp; omega) ?_; intro v7 w7 hown7 hg7 _; obtain ⟨A7, C7, rfl⟩ := own_slice hown7; have hT7 := HI.out.put (b := 34) hown7 hg7; have hcv := string_run (w := w7) (wr := w7) (acc := acc ++ [34]) (A := A7) (n := acc.length + 1) (c := C7) hT7.own (fun k hk => rfl))
          refine bodyPost_ret (v := .string ⟨(acc ++ [34]).toArray⟩) (by simp [results, Tryz.results23, go_sem]) rfl ?_
          exact ⟨by rw [HSD.out, HA3.out], HB1.out.trans (hT7.below.mono (by omega))⟩
    have g6 : (n.op == [116, 101, 120, 116, 95, 111, 102]) = false := beq_eq_false_iff_ne.2 h5
    have hsd : showD (e + 1) n = if (kidsD (showD e) n.kids 40 n.op).2 = true ∨ n.kids = [] then (kidsD (showD e) n.kids 40 n.op).1 else (kidsD (showD e) n.kids 40 n.op).1 ++ [41] := by rw [showD, if_neg h1, if_neg h2, if_neg h3, if_neg h4, if_neg h5]
    have HSD := Lib.hid hsd
    obtain ⟨w1, hw1⟩ : ∃ w1, w1 = w.alloc (.cells #[.string ⟨n.op.toArray⟩, .int .i64 n.int, .string ⟨n.text.toArray⟩, .int .i64 n.ty.kind, .slice A n.ty.args.length c, .slice K n.kids.length k] 37) := ⟨_, rfl⟩
    rw [← hw1] at HC1 HB1 hs1
    have HW1 := Lib.hid hw1
    clear h1 h2 h3 h4 h5 hsd hw1
    go_enter Tryz.func23, Tryz.ntmps23
    go_wp2_with (fail)
    go_loopw [6, 7] (fun sv iv wr => ∃ (j : Nat) (u : ByteArray), iv = .int .i64 (j : Int) ∧ sv = .string u ∧ j ≤ n.kids.length ∧ u.size ≤ 10000 ∧ Hid (kidsD (showD e) n.kids 40 n.op = kidsD (showD e) (n.kids.drop j) (if j = 0 then 40 else 44) u.data.toList) ∧ Hid (Below w1.heap.size w1 wr)) (fun _ iv _ => 6000 - (intOf iv).toNat)
    case atStart =>
      refine ⟨0, ⟨n.op.toArray⟩, rfl, rfl, Nat.zero_le _, by simp [ByteArray.size]; omega, Lib.hid rfl, ?_⟩
      rw [← HW1.out]
      exact Below.refl _ _
    case round =>
      obtain ⟨j, u, rfl, rfl, hj, hub, HE, HBR⟩ := hrel
      have hsr := HBR.out.size
      have HCR := Lib.hid (below_at HBR.out HC1.out)
      have x5 := cell6_5 HCR.out
      have xl := cell_lt HCR.out
      have hn1 : ¬ 9223372036854775807 < u.size + 1 := by omega
      by_cases hlt : j < n.kids.length
      · have hjl : ((j : Int) < (n.kids.length : Int)) := by omega
        have HBW := Lib.hid (HB1.out.trans (HBR.out.mono (by omega)))
        obtain ⟨b1, o, rfl, hSb, hcells⟩ := HA.out (by omega)
        obtain ⟨x, hx⟩ : ∃ x, n.kids[j]? = some x := ⟨_, List.getElem?_eq_getElem hlt⟩
        have hmem := List.mem_of_getElem? hx
        have HFX := Lib.hid (HFK.out x hmem)
        have HIX := Lib.hid (HIK.out x hmem)
        have HLX := Lib.hid (showD_len e i x HFX.out HIX.out)
        obtain ⟨A1, c1, K1, k1, h0, h1, h2, h3, h4, h5, h6, hbl⟩ := kid_cells hcells hx
        have g0 := (HBW.out.cell (p := ⟨b1, o + j * 6, none⟩) hbl).trans h0
        have g1 := (HBW.out.cell (p := ⟨b1, o + j * 6 + 1, none⟩) hbl).trans h1
        have g2 := (HBW.out.cell (p := ⟨b1, o + j * 6 + 2, none⟩) hbl).trans h2
        have g3 := (HBW.out.cell (p := ⟨b1, o + j * 6 + 3, none⟩) hbl).trans h3
        have g4 := (HBW.out.cell (p := ⟨b1, o + j * 6 + 4, none⟩) hbl).trans h4
        have g5 := (HBW.out.cell (p := ⟨b1, o + j * 6 + 5, none⟩) hbl).trans h5
        have H2 := Lib.hid (h6.below HBW.out)
        have HD : Hid (n.kids.drop j = x :: n.kids.drop (j + 1)) := by
          show _ = _
          rw [List.drop_eq_getElem_cons hlt]
          rw [List.getElem?_eq_getElem hlt] at hx
          injection hx with hx
          rw [hx]
        have heb : e ≤ 1000000000 := HEB.out
        clear h0 h1 h2 h3 h4 h5 h6 hx hmem hcells
        by_cases hj0 : j = 0
        · have hj0b : ((j : Int) == 0) = true := by simp [hj0]
          have HKD : Hid (kidsD (showD e) n.kids 40 n.op = if 10000 < ((u.data.toList ++ [40]) ++ showD e x).length then ((u.data.toList ++ [40]) ++ showD e x, true) else kidsD (showD e) (n.kids.drop (j + 1)) 44 ((u.data.toList ++ [40]) ++ showD e x)) := by
            show _ = _
            rw [HE.out, HD.out, if_pos hj0]
            rfl
          clear hj0
          go_wp2_with (fail)
          obtain ⟨u2, hu2⟩ : ∃ u2 : ByteArray, u2 = u ++ (⟨#[40]⟩ : ByteArray) := ⟨_, rfl⟩
          have hu2z : u2.size = u.size + 1 := by rw [hu2, ByteArray.size_append]; rfl
          have HU2 : Hid (u2.data.toList = u.data.toList ++ [40]) := by show _ = _; rw [hu2, str_app]
          rw [← hu2]
          clear hu2
          refine (HIH.out _ x wr HFX.out HIX.out H2.out).mono ?_
          obtain ⟨s2, hs2⟩ : ∃ s2 : ByteArray, s2 = ⟨(showD e x).toArray⟩ := ⟨_, rfl⟩
          have HS2 : Hid (s2.data.toList = showD e x) := by show _ = _; rw [hs2]
          have hz2 : s2.size ≤ 40000 + 10002 * e := by rw [hs2]; simpa [ByteArray.size] using HLX.out
          rw [← hs2]
          clear hs2
          rintro e' w3 ⟨rfl, hb3⟩
          have HB3 := Lib.hid (HBR.out.trans (hb3.mono hsr))
          have hn3 : ¬ 9223372036854775807 < u2.size + s2.size := by omega
          clear g0 g1 g2 g3 g4 g5 hb3 x5
          go_upto_region 31 with (fail)
          obtain ⟨u3, hu3⟩ : ∃ u3 : ByteArray, u3 = u2 ++ s2 := ⟨_, rfl⟩
          have HU3 : Hid (u3.data.toList = (u.data.toList ++ [40]) ++ showD e x) := by show _ = _; rw [hu3, str_app, HU2.out, HS2.out]
          rw [← hu3]
          have hu3z : u3.size = ((u.data.toList ++ [40]) ++ showD e x).length := by rw [← HU3.out]; exact size_list u3
          clear hu3
          by_cases hbig : 10000 < u3.size
          · have hbI : decide ((10000 : Int) < (u3.size : Int)) = true := by simp; omega
            have HF2 : Hid (showD (e + 1) n = u3.data.toList) := by
              show _ = _
              have hbl := hbig
              rw [hu3z] at hbl
              rw [HSD.out, HKD.out, if_pos hbl, if_pos (Or.inl rfl), HU3.out]
            clear hbig hu3z
            go_wp2_with (fail)
            refine bodyPost_ret (v := .string u3) (by simp [results, Tryz.results23, go_sem]) rfl ?_
            exact ⟨by rw [str_mk HF2.out.symm], HB1.out.trans (HB3.out.mono (by omega))⟩
          · have hbI : decide ((10000 : Int) < (u3.size : Int)) = false := by simp; omega
            have HF2 : Hid (kidsD (showD e) n.kids 40 n.op = kidsD (showD e) (n.kids.drop (j + 1)) (if j + 1 = 0 then 40 else 44) u3.data.toList) := by
              show _ = _
              have hbl := hbig
              rw [hu3z] at hbl
              rw [HKD.out, if_neg hbl, if_neg (Nat.succ_ne_zero j), HU3.out]
            have hle3 : u3.size ≤ 10000 := by omega
            clear hbig hu3z
            go_wp2_with (fail)
            go_roundw
            case rel => exact ⟨j + 1, u3, by go_num, rfl, by omega, hle3, HF2, HB3⟩
            case measure => simp [intOf]; omega
        · have hj0b : ((j : Int) == 0) = false := by simp; omega
          have HKD : Hid (kidsD (showD e) n.kids 40 n.op = if 10000 < ((u.data.toList ++ [44]) ++ showD e x).length then ((u.data.toList ++ [44]) ++ showD e x, true) else kidsD (showD e) (n.kids.drop (j + 1)) 44 ((u.data.toList ++ [44]) ++ showD e x)) := by
            show _ = _
            rw [HE.out, HD.out, if_neg hj0]
            rfl
          clear hj0
          go_wp2_with (fail)
          obtain ⟨u2, hu2⟩ : ∃ u2 : ByteArray, u2 = u ++ (⟨#[44]⟩ : ByteArray) := ⟨_, rfl⟩
          have hu2z : u2.size = u.size + 1 := by rw [hu2, ByteArray.size_append]; rfl
          have HU2 : Hid (u2.data.toList = u.data.toList ++ [44]) := by show _ = _; rw [hu2, str_app]
          rw [← hu2]
          clear hu2
          refine (HIH.out _ x wr HFX.out HIX.out H2.out).mono ?_
          obtain ⟨s2, hs2⟩ : ∃ s2 : ByteArray, s2 = ⟨(showD e x).toArray⟩ := ⟨_, rfl⟩
          have HS2 : Hid (s2.data.toList = showD e x) := by show _ = _; rw [hs2]
          have hz2 : s2.size ≤ 40000 + 10002 * e := by rw [hs2]; simpa [ByteArray.size] using HLX.out
          rw [← hs2]
          clear hs2
          rintro e' w3 ⟨rfl, hb3⟩
          have HB3 := Lib.hid (HBR.out.trans (hb3.mono hsr))
          have hn3 : ¬ 9223372036854775807 < u2.size + s2.size := by omega
          clear g0 g1 g2 g3 g4 g5 hb3 x5
          go_upto_region 31 with (fail)
          obtain ⟨u3, hu3⟩ : ∃ u3 : ByteArray, u3 = u2 ++ s2 := ⟨_, rfl⟩
          have HU3 : Hid (u3.data.toList = (u.data.toList ++ [44]) ++ showD e x) := by show _ = _; rw [hu3, str_app, HU2.out, HS2.out]
          rw [← hu3]
          have hu3z : u3.size = ((u.data.toList ++ [44]) ++ showD e x).length := by rw [← HU3.out]; exact size_list u3
          clear hu3
          by_cases hbig : 10000 < u3.size
          · have hbI : decide ((10000 : Int) < (u3.size : Int)) = true := by simp; omega
            have HF2 : Hid (showD (e + 1) n = u3.data.toList) := by
              show _ = _
              have hbl := hbig
              rw [hu3z] at hbl
              rw [HSD.out, HKD.out, if_pos hbl, if_pos (Or.inl rfl), HU3.out]
            clear hbig hu3z
            go_wp2_with (fail)
            refine bodyPost_ret (v := .string u3) (by simp [results, Tryz.results23, go_sem]) rfl ?_
            exact ⟨by rw [str_mk HF2.out.symm], HB1.out.trans (HB3.out.mono (by omega))⟩
          · have hbI : decide ((10000 : Int) < (u3.size : Int)) = false := by simp; omega
            have HF2 : Hid (kidsD (showD e) n.kids 40 n.op = kidsD (showD e) (n.kids.drop (j + 1)) (if j + 1 = 0 then 40 else 44) u3.data.toList) := by
              show _ = _
              have hbl := hbig
              rw [hu3z] at hbl
              rw [HKD.out, if_neg hbl, if_neg (Nat.succ_ne_zero j), HU3.out]
            have hle3 : u3.size ≤ 10000 := by omega
            clear hbig hu3z
            go_wp2_with (fail)
            go_roundw
            case rel => exact ⟨j + 1, u3, by go_num, rfl, by omega, hle3, HF2, HB3⟩
            case measure => simp [intOf]; omega
      · have hjl : ¬ ((j : Int) < (n.kids.length : Int)) := by omega
        have HKE : Hid (kidsD (showD e) n.kids 40 n.op = (u.data.toList, false)) := by
          show _ = _
          rw [HE.out, List.drop_of_length_le (by omega)]
          rfl
        by_cases hk0 : n.kids = []
        · have hkI : decide ((0 : Int) < (n.kids.length : Int)) = false := by simp [hk0]
          have hkN : decide (0 < n.kids.length) = false := by simp [hk0]
          have hkZ : n.kids.length = 0 := by simp [hk0]
          have HF2 : Hid (showD (e + 1) n = u.data.toList) := by
            show _ = _
            rw [HSD.out, HKE.out, if_pos (.inr hk0)]
          clear hk0
          go_wp2_with (fail)
          refine bodyPost_ret (v := .string u) (by simp [results, Tryz.results23, go_sem]) rfl ?_
          exact ⟨by rw [str_mk HF2.out.symm], HB1.out.trans (HBR.out.mono (by omega))⟩
        · have hkI : decide ((0 : Int) < (n.kids.length : Int)) = true := by
            have := List.length_pos_iff.2 hk0
            simp
            omega
          have hkN : decide (0 < n.kids.length) = true := decide_eq_true (List.length_pos_iff.2 hk0)
          have HF2 : Hid (showD (e + 1) n = u.data.toList ++ [41]) := by
            show _ = _
            rw [HSD.out, HKE.out, if_neg (fun h => h.elim (fun h => by cases h) hk0)]
          clear hk0
          go_wp2_with (fail)
          refine bodyPost_ret (v := .string (u ++ (⟨#[41]⟩ : ByteArray))) (by simp [results, Tryz.results23, go_sem]) rfl ?_
          exact ⟨by rw [str_mk (a := u ++ (⟨#[41]⟩ : ByteArray)) (l := showD (e + 1) n) (by rw [str_app, HF2.out])], HB1.out.trans (HBR.out.mono (by omega))⟩
end Go.Proofs.YtadbnlnifacblaaGreatDoor
