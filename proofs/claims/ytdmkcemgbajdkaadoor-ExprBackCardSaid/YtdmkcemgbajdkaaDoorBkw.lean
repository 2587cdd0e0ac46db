/-
The walk of ExprBack.
-/
import Derived.Test.YtdmkcemgbajdkaaDoorBk1
import Derived.Test.YtdmkcemgbajdkaaDoorOsn
import Derived.Test.YtdmkcemgbajdkaaDoorAwk
import Derived.Deep.DeepCutAuto
namespace Go.Proofs.YtdmkcemgbajdkaaDoor
open Go.RowKit

theorem nar_more : ∀ (d e : Nat) (t : Ty), d ≤ e → Nar d t → Nar e t
  | 0, _, _, _, h => h.elim
  | d + 1, e, t, hle, ⟨h0, h1⟩ => by
    obtain ⟨e', rfl⟩ : ∃ e', e = e' + 1 := ⟨e - 1, by omega⟩
    exact ⟨h0, fun a ha => nar_more d e' a (by omega) (h1 a ha)⟩
theorem nar_measure : ∀ (r : Nat) (t : Ty) (q : Nat), Knd.measureT r t = some q → Nar r t
  | 0, t, q, h => by simp [Knd.measureT] at h
  | r + 1, t, q, h => by
    obtain ⟨x, _, hxa, hxw, hall⟩ := Knd.measure_right h
    have hx2 := Knd.words_args x hxw
    exact ⟨by omega, fun a ha => by
      obtain ⟨q', hq⟩ := hall a ha
      exact nar_measure r a q' hq⟩
theorem wdN_len64 : (wdL.all fun x => decide (x.2.length ≤ 64)) = true := by decide +kernel
theorem wd_parts {t p : List UInt8} {least : Nat} (h : wdP t = some (p, least)) : p.length ≤ 64 := by
  unfold wdP at h
  split at h
  · injection h with h
    injection h with h1 h2
    rw [← h1]
    simp
  · obtain ⟨x, hx, e⟩ := Option.map_eq_some_iff.1 h
    injection e with h1 h2
    rw [← h1]
    have := List.all_eq_true.1 wdN_len64 x (List.mem_of_find?_eq_some hx)
    simpa using this
theorem kids_nar {f : Nd → StW → Option StW} {d : Nat} : ∀ (l : List Nd) (p : List UInt8) (mark : UInt8) (s s' : StW), (∀ n s s', f n s = some s' → NarN d n) → kidsW f l p mark s = some s' → ∀ k ∈ l, NarN d k
  | [], _, _, _, _, _, _, k, hk => by cases hk
  | _ :: _, [], _, _, _, _, h, _, _ => by simp [kidsW] at h
  | n :: l, p :: ps, mark, s, s', hf, h, k, hk => by
    unfold kidsW at h
    split at h
    · cases h
    · split at h
      · cases h
      · rename_i s2 h2
        rcases List.mem_cons.1 hk with rfl | hk
        · exact hf _ _ _ h2
        · exact kids_nar l ps 44 s2 s' hf h k hk
/-- A term that can be written has short rows. -/
theorem term_nar : ∀ (r : Nat) (n : Nd) (s s' : StW), termW r n s = some s' → NarN r n
  | 0, n, s, s', h => by simp [termW] at h
  | r + 1, n, s, s', h => by
    have leaf : n.ty = ty0 → n.kids = [] → NarN (r + 1) n := fun h1 h2 => ⟨by rw [h1]; exact ⟨Nat.zero_le _, fun a ha => (by cases ha)⟩, by rw [h2]; exact Nat.zero_le _, fun k hk => by rw [h2] at hk; cases hk⟩
    unfold termW at h
    split at h
    · cases h
    · split at h
      · split at h
        · rename_i hb; exact leaf (bare_back hb).2.2.1 (bare_back hb).2.2.2
        · cases h
      · split at h
        · split at h
          · cases h
          · split at h
            · rename_i hb; exact leaf (bare_back hb).2.2.1 (bare_back hb).2.2.2
            · cases h
        · split at h
          · split at h
            · split at h
              · rename_i hb; exact leaf (bare_back hb).2.2.1 (bare_back hb).2.2.2
              · cases h
            · cases h
          · unfold wordW at h
            split at h
            · cases h
            · rename_i p least hw
              unfold wordP at h
              split at h
              · split at h
                · cases h
                · rename_i hk
                  obtain ⟨s1, e1, e2⟩ := Option.bind_eq_some_iff.1 h
                  split at e2
                  · rename_i hb
                    have hpl : p.length ≤ 64 := wd_parts hw
                    refine ⟨by rw [(bare_back hb).2.2.1]; exact ⟨Nat.zero_le _, fun a ha => (by cases ha)⟩, by omega, fun k hk => ?_⟩
                    exact kids_nar n.kids p 40 _ _ (fun m s s' h => term_nar r m s s' h) e1 k hk
                  · cases e2
              · split at h
                · split at h
                  · cases h
                  · split at h
                    · rename_i hb; exact leaf (bare_back hb).2.2.1 (bare_back hb).2.2.2
                    · cases h
                · split at h
                  · split at h
                    · rename_i hq
                      split at h
                      · rename_i hb
                        obtain ⟨q, hq⟩ := Option.isSome_iff_exists.1 hq
                        have hk := (bare_back hb).2.2.2
                        exact ⟨nar_more 6 30 _ (by decide) (nar_measure 6 n.ty q hq), by rw [hk]; exact Nat.zero_le _, fun k hk' => by rw [hk] at hk'; cases hk'⟩
                      · cases h
                    · cases h
                  · split at h
                    · rename_i hb; exact leaf (bare_back hb).2.2.1 (bare_back hb).2.2.2
                    · cases h
theorem nar_up : ∀ (d e : Nat) (n : Nd), d ≤ e → NarN d n → NarN e n
  | 0, _, _, _, h => h.elim
  | d + 1, e, n, hle, ⟨h0, h1, h2⟩ => by
    obtain ⟨e', rfl⟩ : ∃ e', e = e' + 1 := ⟨e - 1, by omega⟩
    exact ⟨h0, h1, fun k hk => nar_up d e' k (by omega) (h2 k hk)⟩
theorem show_nar {n : Nd} {x : StW} (h : showW n = some x) : NarN 24 n := by
  unfold showW at h
  split at h
  · cases h
  · rename_i s e
    exact term_nar 24 n _ _ e

theorem gap_size {p : ByteArray} {j : Nat} (h : j < p.size) : (p.extract 0 j ++ ⟨#[32, 32]⟩ ++ p.extract j p.size).size = p.size + 2 := by
  rw [ByteArray.size_append, ByteArray.size_append, ByteArray.size_extract, ByteArray.size_extract]
  show min j p.size - 0 + 2 + (min p.size p.size - j) = _
  omega
theorem bl_gap (p : ByteArray) (j : Nat) : bl (p.extract 0 j ++ ⟨#[32, 32]⟩ ++ p.extract j p.size) = (bl p).take j ++ [32, 32] ++ (bl p).drop j := by
  unfold bl
  simp [ByteArray.data_extract, Array.toList_extract, List.extract, List.take_of_length_le]

/-- What stands behind the reading of the text with two blanks more. -/
def GapOut (w : World) : Option Nd → Value → Value → World → Prop
  | none, _, v17, wx => v17 = .int .i64 40 ∧ Below w.heap.size w wx
  | some b, v15, v17, wx => v17 = .int .i64 0 ∧ Below w.heap.size w wx ∧ ∃ NB Ab cb Kb kb, v15 = .pointer (some ⟨NB, 0, none⟩) ∧ wx.heap[NB]? = some (.cells #[.string ⟨b.op.toArray⟩, .int .i64 b.int, .string ⟨b.text.toArray⟩, .int .i64 b.ty.kind, .slice Ab b.ty.args.length cb, .slice Kb b.kids.length kb] 28 (0, 0)) ∧
      NdAt wx (fun x => w.heap.size ≤ x ∧ x ≠ NB) 25 (.agg #[.string ⟨b.op.toArray⟩, .int .i64 b.int, .string ⟨b.text.toArray⟩, .int .i64 b.ty.kind, .slice Ab b.ty.args.length cb, .slice Kb b.kids.length kb]) b

theorem nb_ne {NB x : Nat} (h : NB + 1 ≤ x) : x ≠ NB := by omega
theorem gap_after {w w10 : World} {L : Nat} {b : Nd} {Ab Kb : Option Addr} {cb kb : Nat} (hb : Below w.heap.size w w10) (hL : w.heap.size ≤ L) (hT : NdAt w10 (fun x => L ≤ x) 25 (.agg #[.string ⟨b.op.toArray⟩, .int .i64 b.int, .string ⟨b.text.toArray⟩, .int .i64 b.ty.kind, .slice Ab b.ty.args.length cb, .slice Kb b.kids.length kb]) b) :
    GapOut w (some b) (.pointer (some ⟨w10.heap.size, 0, none⟩)) (.int .i64 0) (w10.alloc (.cells #[.string ⟨b.op.toArray⟩, .int .i64 b.int, .string ⟨b.text.toArray⟩, .int .i64 b.ty.kind, .slice Ab b.ty.args.length cb, .slice Kb b.kids.length kb] 28)) :=
  ⟨rfl, hb.alloc hb.size _, _, Ab, cb, Kb, kb, rfl, heap_alloc_new w10 _, NdAt.move (fun x hx hl => ⟨⟨Nat.le_trans hL hx, Nat.ne_of_lt hl⟩, fun _ => World.cell?_of_block (Below.heap_alloc w10 _ x hl)⟩) _ _ _ hT⟩
theorem gap_ahead {w w10 : World} {NB : Nat} {b : Nd} {Ab Kb : Option Addr} {cb kb : Nat} (hb : Below w.heap.size w w10) (hL : w.heap.size ≤ NB) (hy : w10.heap[NB]? = some (.cells #[.string ⟨#[]⟩, .int .i64 0, .string ⟨#[]⟩, .int .i64 0, .slice none 0 0, .slice none 0 0] 28 (0, 0))) (hT : NdAt w10 (fun x => NB + 1 ≤ x) 25 (.agg #[.string ⟨b.op.toArray⟩, .int .i64 b.int, .string ⟨b.text.toArray⟩, .int .i64 b.ty.kind, .slice Ab b.ty.args.length cb, .slice Kb b.kids.length kb]) b) :
    GapOut w (some b) (.pointer (some ⟨NB, 0, none⟩)) (.int .i64 0) ((((((w10.setCell ⟨NB, 0, none⟩ (.string ⟨b.op.toArray⟩)).setCell ⟨NB, 1, none⟩ (.int .i64 b.int)).setCell ⟨NB, 2, none⟩ (.string ⟨b.text.toArray⟩)).setCell ⟨NB, 3, none⟩ (.int .i64 b.ty.kind)).setCell ⟨NB, 4, none⟩ (.slice Ab b.ty.args.length cb)).setCell ⟨NB, 5, none⟩ (.slice Kb b.kids.length kb)) :=
  ⟨rfl, (((((hb.setCell hL _).setCell hL _).setCell hL _).setCell hL _).setCell hL _).setCell hL _, NB, Ab, cb, Kb, kb, rfl, put6_heap hy, NdAt.move (fun _ hx _ => ⟨⟨Nat.le_trans hL (Nat.le_of_succ_le hx), nb_ne hx⟩, fun _ => World.cell?_of_block (set6_block (nb_ne hx))⟩) _ _ _ hT⟩

set_option maxRecDepth 100000 in
set_option maxHeartbeats 4000000 in
theorem back_walk (s : ByteArray) (at_ : Int) (w : World) (hG : Gl w) :
    Calls Tryd.prog 3 #[.string s, .int .i64 at_] w fun e w' => e = .returned (.bool true) ∧ Below w.heap.size w w' := by
  have hGl := hG.kd.lt
  have HG := Lib.hid hG
  have HAWK := Lib.hid (fun (W : World) (h : Below w.heap.size w W) => awake_any W (hG.below h hGl))
  have hbl := bl_length s
  have hb0 := Below.refl w.heap.size w
  by_cases hs : 4000 < s.size
  · have hs2 : ((4000 : Int) < (s.size : Int)) := by omega
    clear hG
    go_enter Tryd.func3, Tryd.ntmps3
    go_wp2_with (fail)
    refine (HAWK.out _ hb0).mono ?_
    rintro e wz ⟨rfl, hbz⟩
    go_wp2_with (fail)
    go_ret
    exact ⟨rfl, hbz⟩
  have hs2 : ¬ ((4000 : Int) < (s.size : Int)) := by omega
  have HP1 := Lib.hid (exprParse_any s w (by omega) hG.kd)
  clear hG
  cases hp : parseR Knd.parseT (bl s) with
  | mk k o =>
  cases o with
  | none =>
    have HPP := Lib.hid hp
    clear hp
    go_enter Tryd.func3, Tryd.ntmps3
    go_wp2_with (fail)
    refine HP1.out.mono ?_
    rw [HPP.out]
    rintro e w1 ⟨rfl, hb1⟩
    clear HP1
    go_wp2_with (fail)
    refine (HAWK.out _ (by first | exact hb1 | exact hb1.alloc hb1.size _)).mono ?_
    rintro e wz ⟨rfl, hbz⟩
    go_wp2_with (fail)
    go_ret
    exact ⟨rfl, by first | exact hb1.trans (hbz.mono hb1.size) | exact (hb1.alloc hb1.size _).trans (hbz.mono (by have := hb1.size; simp; omega))⟩
  | some n =>
    have HPP := Lib.hid hp
    obtain ⟨q1, ⟨c, q2⟩, k', q3⟩ := back_pure hp (by omega)
    have HRG := Lib.hid q1
    have HSH := Lib.hid q2
    have HP2 := Lib.hid q3
    have hpl := strp_len (bl s) false
    obtain ⟨pb, hpb⟩ : ∃ pb : ByteArray, pb = ⟨(strp false (bl s)).toArray⟩ := ⟨_, rfl⟩
    have HPB := Lib.hid hpb
    have HBL : Hid (bl pb = strp false (bl s)) := by show _ = _; rw [hpb]; unfold bl; simp
    have hpz : pb.size ≤ 4000 := by rw [← bl_length, HBL.out]; omega
    have HNAR : Hid (NarN 24 n) := show_nar q2
    clear hp q1 q2 q3 hpb hpl
    go_enter Tryd.func3, Tryd.ntmps3
    go_wp2_with (fail)
    refine HP1.out.mono ?_
    clear HP1
    rw [HPP.out]
    rintro e w1 ⟨⟨v, rfl, hT⟩, hb1⟩
    obtain ⟨A, c1, K, k1, rfl⟩ := hT.form
    have HT := Lib.hid hT
    have HB1 := Lib.hid hb1
    have hs1 := hb1.size
    clear hT hb1
    go_wp2_with (fail)
    have hb2 := HB1.out.alloc hs1 (.cells #[.string ⟨n.op.toArray⟩, .int .i64 n.int, .string ⟨n.text.toArray⟩, .int .i64 n.ty.kind, .slice A n.ty.args.length c1, .slice K n.kids.length k1] 28)
    have hs2 : (w1.alloc (.cells #[.string ⟨n.op.toArray⟩, .int .i64 n.int, .string ⟨n.text.toArray⟩, .int .i64 n.ty.kind, .slice A n.ty.args.length c1, .slice K n.kids.length k1] 28)).heap.size = w1.heap.size + 1 := by simp
    have HC2 := Lib.hid (heap_alloc_new w1 (.cells #[.string ⟨n.op.toArray⟩, .int .i64 n.int, .string ⟨n.text.toArray⟩, .int .i64 n.ty.kind, .slice A n.ty.args.length c1, .slice K n.kids.length k1] 28))
    have HN2 := Lib.hid (NdAt.below HT.out ((Below.refl _ w1).alloc (Nat.le_refl _) (.cells #[.string ⟨n.op.toArray⟩, .int .i64 n.int, .string ⟨n.text.toArray⟩, .int .i64 n.ty.kind, .slice A n.ty.args.length c1, .slice K n.kids.length k1] 28)))
    have HB2 := Lib.hid hb2
    clear hb2
    generalize w1.alloc (.cells #[.string ⟨n.op.toArray⟩, .int .i64 n.int, .string ⟨n.text.toArray⟩, .int .i64 n.ty.kind, .slice A n.ty.args.length c1, .slice K n.kids.length k1] 28) = w2 at *
    refine (exprShow_any 25 _ _ n w2 HN2.out HRG.out (HG.out.below HB2.out hGl)).mono ?_
    rw [HSH.out]
    rintro e w3 ⟨he, hb3⟩
    obtain rfl : e = .returned (.tuple #[.string ⟨(strp false (bl s)).toArray⟩, .int .i64 0]) := he
    rw [← HPB.out]
    have HB3 := Lib.hid (HB2.out.trans (hb3.mono (by omega)))
    have HC3 := Lib.hid (below_at hb3 HC2.out)
    have HN3 := Lib.hid (HN2.out.below hb3)
    have hs3 := hb3.size
    clear hb3 HC2 HN2
    go_wp2_with (fail)
    refine (exprParse_any pb w3 (by omega) (HG.out.below HB3.out hGl).kd).mono ?_
    rw [HBL.out, HP2.out]
    rintro e w4 ⟨⟨v, rfl, hT4⟩, hb4⟩
    obtain ⟨A', c', K', k2, rfl⟩ := hT4.form
    have HM4 := Lib.hid hT4
    have HB4 := Lib.hid (HB3.out.trans (hb4.mono (by omega)))
    have HC4 := Lib.hid (below_at hb4 HC3.out)
    have HN4 := Lib.hid (HN3.out.below hb4)
    have hs4 := hb4.size
    clear hb4 hT4 HC3 HN3
    have hb5 := HB4.out.alloc (by omega : w.heap.size ≤ w4.heap.size) (.cells #[.string ⟨n.op.toArray⟩, .int .i64 n.int, .string ⟨n.text.toArray⟩, .int .i64 n.ty.kind, .slice A' n.ty.args.length c', .slice K' n.kids.length k2] 28)
    have hs5 : (w4.alloc (.cells #[.string ⟨n.op.toArray⟩, .int .i64 n.int, .string ⟨n.text.toArray⟩, .int .i64 n.ty.kind, .slice A' n.ty.args.length c', .slice K' n.kids.length k2] 28)).heap.size = w4.heap.size + 1 := by simp
    have HCM := Lib.hid (heap_alloc_new w4 (.cells #[.string ⟨n.op.toArray⟩, .int .i64 n.int, .string ⟨n.text.toArray⟩, .int .i64 n.ty.kind, .slice A' n.ty.args.length c', .slice K' n.kids.length k2] 28))
    have HB45 := Lib.hid ((Below.refl _ w4).alloc (Nat.le_refl _) (.cells #[.string ⟨n.op.toArray⟩, .int .i64 n.int, .string ⟨n.text.toArray⟩, .int .i64 n.ty.kind, .slice A' n.ty.args.length c', .slice K' n.kids.length k2] 28))
    have HM5 := Lib.hid (NdAt.below HM4.out HB45.out)
    have HN5 := Lib.hid (NdAt.below HN4.out HB45.out)
    have HCN := Lib.hid (below_at HB45.out HC4.out)
    have HB5 := Lib.hid hb5
    have HS4 := Lib.hid hs4
    have hz0 : w1.heap.size < w4.heap.size := cell_lt HC4.out
    clear hb5 HM4 HN4 HC4 HB45
    go_wp2_with (fail)
    generalize w4.alloc (.cells #[.string ⟨n.op.toArray⟩, .int .i64 n.int, .string ⟨n.text.toArray⟩, .int .i64 n.ty.kind, .slice A' n.ty.args.length c', .slice K' n.kids.length k2] 28) = w5 at *
    have hz1 : w1.heap.size < w5.heap.size := by omega
    have hz2 : w4.heap.size < w5.heap.size := by omega
    have z0 := cell6_0 HCM.out
    have z1 := cell6_1 HCM.out
    have z2 := cell6_2 HCM.out
    have z3 := cell6_3 HCM.out
    have z4 := cell6_4 HCM.out
    have z5 := cell6_5 HCM.out
    have y0 := cell6_0 HCN.out
    have y1 := cell6_1 HCN.out
    have y2 := cell6_2 HCN.out
    have y3 := cell6_3 HCN.out
    have y4 := cell6_4 HCN.out
    have y5 := cell6_5 HCN.out
    have hRR : Below w5.heap.size w5 w5 := Below.refl _ _
    go_region_held3 (fun w' => w'.cell? ⟨w1.heap.size, 0, none⟩ = some (.string ⟨n.op.toArray⟩) ∧ w'.cell? ⟨w1.heap.size, 1, none⟩ = some (.int .i64 n.int) ∧ w'.cell? ⟨w1.heap.size, 2, none⟩ = some (.string ⟨n.text.toArray⟩) ∧ w'.cell? ⟨w1.heap.size, 3, none⟩ = some (.int .i64 n.ty.kind) ∧ w'.cell? ⟨w1.heap.size, 4, none⟩ = some (.slice A n.ty.args.length c1) ∧ w'.cell? ⟨w1.heap.size, 5, none⟩ = some (.slice K n.kids.length k1) ∧ w'.cell? ⟨w4.heap.size, 0, none⟩ = some (.string ⟨n.op.toArray⟩) ∧ w'.cell? ⟨w4.heap.size, 1, none⟩ = some (.int .i64 n.int) ∧ w'.cell? ⟨w4.heap.size, 2, none⟩ = some (.string ⟨n.text.toArray⟩) ∧ w'.cell? ⟨w4.heap.size, 3, none⟩ = some (.int .i64 n.ty.kind) ∧ w'.cell? ⟨w4.heap.size, 4, none⟩ = some (.slice A' n.ty.args.length c') ∧ w'.cell? ⟨w4.heap.size, 5, none⟩ = some (.slice K' n.kids.length k2) ∧ Below w5.heap.size w5 w')
      ((refine ⟨?_, ?_, ?_, ?_, ?_, ?_, ?_, ?_, ?_, ?_, ?_, ?_, ?_⟩ <;> (repeat' (first | with_reducible assumption | with_reducible refine cell_drew_some ?_ | with_reducible refine Below.drew ?_))))
      (first
        | (go_at_call 12; refine (of_any 25 24 _ _ n _ HNAR.out (HM5.out.below HBa)).mono ?_; rintro e w7 ⟨⟨v7, rfl, hv7⟩, hb7⟩; obtain ⟨A7, c7, K7, k7, rfl⟩ := hv7.form; have HV7 := Lib.hid hv7; have HBb : Below w5.heap.size w5 w7 := HBa.trans (hb7.mono HBa.size); clear hv7; have y := (HBb.block _ hz1).trans HCN.out; have z := (HBb.block _ hz2).trans HCM.out; have y0 := cell6_0 y; have z0 := cell6_0 z; have y1 := cell6_1 y; have z1 := cell6_1 z; have y2 := cell6_2 y; have z2 := cell6_2 z; have y3 := cell6_3 y; have z3 := cell6_3 z; have y4 := cell6_4 y; have z4 := cell6_4 z; have y5 := cell6_5 y; have z5 := cell6_5 z; clear y z)
        | (go_at_call 12; refine (of_any 25 24 _ _ n w5.drew HNAR.out (HN5.out.below (Below.refl _ _).drew)).mono ?_; rintro e w6 ⟨⟨v6, rfl, hv6⟩, hb6⟩; obtain ⟨A6, c6, K6, k6, rfl⟩ := hv6.form; have HV6 := Lib.hid hv6; have HBa : Below w5.heap.size w5 w6 := (Below.refl _ w5).drew.trans hb6; clear hv6; have y := (HBa.block _ hz1).trans HCN.out; have z := (HBa.block _ hz2).trans HCM.out; have y0 := cell6_0 y; have z0 := cell6_0 z; have y1 := cell6_1 y; have z1 := cell6_1 z; have y2 := cell6_2 y; have z2 := cell6_2 z; have y3 := cell6_3 y; have z3 := cell6_3 z; have y4 := cell6_4 y; have z4 := cell6_4 z; have y5 := cell6_5 y; have z5 := cell6_5 z; clear y z)
        | (go_at_call 11; refine (same_any 25 25 24 _ _ _ _ n n _ HNAR.out (HV6.out.below hb7) HV7.out).mono ?_; rintro e w8 ⟨⟨q, rfl, hq⟩, hb8⟩; obtain rfl : q = true := hq.2 rfl; have HBc : Below w5.heap.size w5 w8 := HBb.trans (hb8.mono HBb.size); have y := (HBc.block _ hz1).trans HCN.out; have z := (HBc.block _ hz2).trans HCM.out; have y0 := cell6_0 y; have z0 := cell6_0 z; have y1 := cell6_1 y; have z1 := cell6_1 z; have y2 := cell6_2 y; have z2 := cell6_2 z; have y3 := cell6_3 y; have z3 := cell6_3 z; have y4 := cell6_4 y; have z4 := cell6_4 z; have y5 := cell6_5 y; have z5 := cell6_5 z; clear y z))
    have HM8 := Lib.hid (HM5.out.below HBc)
    have HB8 := Lib.hid (HB5.out.trans (HBc.mono HB5.out.size))
    have hs8 := HBc.size
    have HC8 := Lib.hid (below_at HBc HCN.out)
    clear HM5 HN5 HBa HBb HBc hb6 hb7 hb8 HV6 HV7 y0 y1 y2 y3 y4 y5 z0 z1 z2 z3 z4 z5 hq HCM HCN hRR
    go_upto_region 10 with (fail)
    go_cut [13, 14] (fun sq sh wx => sq = .string pb ∧ sh = .int .i64 0 ∧ Below w.heap.size w wx ∧ wx.heap[w1.heap.size]? = some (.cells #[.string ⟨n.op.toArray⟩, .int .i64 n.int, .string ⟨n.text.toArray⟩, .int .i64 n.ty.kind, .slice A n.ty.args.length c1, .slice K n.kids.length k1] 28 (0, 0)))
    case first => as_aux_lemma =>
      go_wp2_with (fail)
      refine (exprShow_any 25 _ _ n w8 HM8.out HRG.out (HG.out.below HB8.out hGl)).mono ?_
      rw [HSH.out]
      rintro e w9 ⟨he, hb9⟩
      obtain rfl : e = .returned (.tuple #[.string ⟨(strp false (bl s)).toArray⟩, .int .i64 0]) := he
      rw [← HPB.out]
      have HB9 := Lib.hid (HB8.out.trans (hb9.mono (by omega)))
      have HC9 := Lib.hid (below_at hb9 HC8.out)
      clear hb9
      go_wp2_with (fail)
      go_meet
      exact ⟨rfl, rfl, HB9.out, HC9.out⟩
    case rest =>
    obtain ⟨rfl, rfl, hb9, hc9⟩ := hcut
    obtain ⟨w9, hw9⟩ : ∃ w9 : World, w9 = wc := ⟨_, rfl⟩
    subst hw9
    have HB9 := Lib.hid hb9
    have HC9 := Lib.hid hc9
    have hs9 : w1.heap.size < w9.heap.size := cell_lt hc9
    clear hb9 hc9 HC8 HM8 HB8 HB5 HB4 HB3 HB2 HB1 HSH HT HPP HP2 HNAR HRG HS4 hs8 hs5 hz0 hz1 hz2 hs1 hs2 hs3 hs4
    have hsz9 := HB9.out.size
    have hB9 := HB9.out
    have x3 := cell6_3 HC9.out
    have xl := cell_lt HC9.out
    go_upto_region 13 with (fail)
    go_cut [96] (fun t wx => wx = w9 ∧ (t = .bool false ∨ (t = .bool true ∧ ∃ j : Nat, at_ = (j : Int) ∧ j < pb.size)))
    case first => as_aux_lemma =>
      rcases (Decidable.em (0 ≤ at_)).symm with h0 | h0
      · go_wp2_with (fail)
        go_meet
        exact ⟨rfl, .inl rfl⟩
      obtain ⟨j, rfl⟩ : ∃ j : Nat, at_ = (j : Int) := ⟨at_.toNat, by omega⟩
      rcases (Decidable.em (j < pb.size)).symm with h1 | h1
      · have h1i : ¬ ((j : Int) < (pb.size : Int)) := by omega
        go_wp2_with (fail)
        go_meet
        exact ⟨rfl, .inl rfl⟩
      have h1i : ((j : Int) < (pb.size : Int)) := by omega
      have hix := str_index pb j h1 (by omega)
      generalize hbj : pb[j] = bj at *
      clear hbj
      have HJ : Hid (∃ i : Nat, (j : Int) = (i : Int) ∧ i < pb.size) := ⟨j, rfl, h1⟩
      rcases (Decidable.em (n.ty.kind = 0)).symm with hk | hk
      · have k0 : ((n.ty.kind : Int) == 0) = false := by simp [hk]
        clear hk
        rcases (Decidable.em (bj = 44)) with hb | hb
        · have g1 : ((bj.toNat : Int) == 44) = true := by rw [hb]; rfl
          clear hb
          go_wp2_with (fail)
          go_meet
          exact ⟨rfl, .inl rfl⟩
        have g1 : ((bj.toNat : Int) == 44) = false := u8_beq_false (b := 44) hb
        clear hb
        rcases (Decidable.em (bj = 41)) with hb | hb
        · have g2 : ((bj.toNat : Int) == 41) = true := by rw [hb]; rfl
          clear hb
          go_wp2_with (fail)
          go_meet
          exact ⟨rfl, .inl rfl⟩
        have g2 : ((bj.toNat : Int) == 41) = false := u8_beq_false (b := 41) hb
        clear hb
        go_wp2_with (fail)
        go_meet
        exact ⟨rfl, .inl rfl⟩
      have k0 : ((n.ty.kind : Int) == 0) = true := by simp [hk]
      clear hk
      rcases (Decidable.em (bj = 44)) with hb | hb
      · have g1 : ((bj.toNat : Int) == 44) = true := by rw [hb]; rfl
        clear hb
        go_wp2_with (fail)
        go_meet
        exact ⟨rfl, .inr ⟨rfl, HJ.out⟩⟩
      have g1 : ((bj.toNat : Int) == 44) = false := u8_beq_false (b := 44) hb
      clear hb
      rcases (Decidable.em (bj = 41)) with hb | hb
      · have g2 : ((bj.toNat : Int) == 41) = true := by rw [hb]; rfl
        clear hb
        go_wp2_with (fail)
        go_meet
        exact ⟨rfl, .inr ⟨rfl, HJ.out⟩⟩
      have g2 : ((bj.toNat : Int) == 41) = false := u8_beq_false (b := 41) hb
      clear hb
      go_wp2_with (fail)
      go_meet
      exact ⟨rfl, .inl rfl⟩
    case rest =>
    obtain ⟨hwc, ht⟩ := hcut
    subst hwc
    clear x3 xl
    rcases ht with rfl | ⟨rfl, j, rfl, h1⟩
    · go_wp2_with (fail)
      refine (HAWK.out _ HB9.out).mono ?_
      rintro e wz ⟨rfl, hbz⟩
      go_wp2_with (fail)
      go_ret
      exact ⟨rfl, HB9.out.trans (hbz.mono (HB9.out).size)⟩
    have hj2 : ((j : Int) ≤ (pb.size : Int)) := by omega
    have hcat : (pb.extract 0 j ++ ⟨#[32, 32]⟩ ++ pb.extract j pb.size).size ≤ 4096 := by rw [gap_size h1]; omega
    have HPW := Lib.hid (fun (W : World) (h : Below w.heap.size w W) (g : wc.heap.size < W.heap.size → W.heap[wc.heap.size]? = some (.cells #[.string ⟨#[]⟩, .int .i64 0, .string ⟨#[]⟩, .int .i64 0, .slice none 0 0, .slice none 0 0] 28 (0, 0))) => (exprParse_any (pb.extract 0 j ++ ⟨#[32, 32]⟩ ++ pb.extract j pb.size) W hcat (HG.out.below h hGl).kd).mono fun e w' hq => (show _ ∧ Below W.heap.size W w' ∧ Below w.heap.size w w' ∧ (wc.heap.size < W.heap.size → w'.heap[wc.heap.size]? = some (.cells #[.string ⟨#[]⟩, .int .i64 0, .string ⟨#[]⟩, .int .i64 0, .slice none 0 0, .slice none 0 0] 28 (0, 0))) from ⟨hq.1, hq.2, h.trans (hq.2.mono h.size), fun hl => (hq.2.block _ hl).trans (g hl)⟩))
    have n1 : ¬ 9223372036854775805 < min j pb.size := by omega
    have n2 : min j pb.size ≤ 9223372036854775805 := by omega
    have n3 : ¬ 9223372036854775807 < min j pb.size + 2 := by omega
    have n5 : ¬ 9223372036854775807 < min j pb.size + 2 + (pb.size - j) := by omega
    have n6 : min j pb.size + 2 + (pb.size - j) ≤ 9223372036854775807 := by omega
    clear hcat
    cases hq : parseR Knd.parseT ((bl pb).take j ++ [32, 32] ++ (bl pb).drop j) with
    | mk m2 o2 =>
    cases o2 with
    | none =>
      have HQ := Lib.hid hq
      clear hq
      go_wp2_with (fail)
      go_cut [15, 17] (fun v15 v17 wx => GapOut w none v15 v17 wx)
      case first => as_aux_lemma =>
        go_region_held3 (fun w' => Below w.heap.size w w')
          ((repeat' (first | with_reducible assumption | with_reducible refine Below.drew ?_ | with_reducible refine Below.alloc_own ?_ | with_reducible refine Below.set_own ?_ ?_ | (dsimp only; omega))))
          (first
            | (go_at_call 9; refine (HPW.out _ ?_ ?_).mono ?_; (focus (repeat' (first | with_reducible assumption | with_reducible refine Below.drew ?_ | with_reducible refine Below.alloc_own ?_ | with_reducible refine Below.set_own ?_ ?_ | (dsimp only; omega)))); (focus (first | (intro h; simp at h; done) | (intro _; exact heap_alloc_new wc _))); rw [bl_gap, HQ.out]; rintro e w10 ⟨he, hb10, hb11, hyy⟩; obtain rfl : e = .returned (.tuple #[.agg #[.string ⟨#[]⟩, .int .i64 0, .string ⟨#[]⟩, .int .i64 0, .slice none 0 0, .slice none 0 0], .int .i64 (m2 : Int), .int .i64 40]) := he; have hs10 := hb10.size; (try (simp at hyy)); (try (have y0 := cell6_0 hyy; have y1 := cell6_1 hyy; have y2 := cell6_2 hyy; have y3 := cell6_3 hyy; have y4 := cell6_4 hyy; have y5 := cell6_5 hyy; have e0 := cell3_f hyy 0; have e1 := cell3_f hyy 1; have e2 := cell3_f hyy 2; have e3 := cell3_f hyy 3; have e4 := cell3_f hyy 4; have e5 := cell3_f hyy 5))))
        all_goals (go_wp2_with (fail); go_meet; exact ⟨rfl, by repeat' (first | with_reducible assumption | with_reducible refine Below.drew ?_ | with_reducible refine Below.alloc_own ?_ | with_reducible refine Below.set_own ?_ ?_ | (dsimp only; omega))⟩)
      case rest =>
        obtain ⟨rfl, hb12⟩ := hcut
        go_wp2_with (fail)
        refine (HAWK.out _ hb12).mono ?_
        rintro e wz ⟨rfl, hbz⟩
        go_wp2_with (fail)
        go_ret
        exact ⟨rfl, hb12.trans (hbz.mono (hb12).size)⟩
    | some b =>
      obtain ⟨r1, r, cr, r2, r3⟩ := space_pure (l := bl s) HBL.out hq (by rw [bl_length]; omega)
      have HR1 := Lib.hid r1
      have HR2 := Lib.hid r2
      have HR3 := Lib.hid r3
      have HQ := Lib.hid hq
      clear hq r1 r2 r3
      go_wp2_with (fail)
      go_cut [15, 17] (fun v15 v17 wx => GapOut w (some b) v15 v17 wx)
      case first => as_aux_lemma =>
        go_region_held3 (fun w' => Below w.heap.size w w')
          ((repeat' (first | with_reducible assumption | with_reducible refine Below.drew ?_ | with_reducible refine Below.alloc_own ?_ | with_reducible refine Below.set_own ?_ ?_ | (dsimp only; omega))))
          (first
            | (go_at_call 9; refine (HPW.out _ ?_ ?_).mono ?_; (focus (repeat' (first | with_reducible assumption | with_reducible refine Below.drew ?_ | with_reducible refine Below.alloc_own ?_ | with_reducible refine Below.set_own ?_ ?_ | (dsimp only; omega)))); (focus (first | (intro h; simp at h; done) | (intro _; exact heap_alloc_new wc _))); rw [bl_gap, HQ.out]; rintro e w10 ⟨⟨v, rfl, hT⟩, hb10, hb11, hyy⟩; obtain ⟨Ab, cb, Kb, kb, rfl⟩ := hT.form; have HTB := Lib.hid hT; clear hT; have hs10 := hb10.size; (try (simp at hyy)); (try (have y0 := cell6_0 hyy; have y1 := cell6_1 hyy; have y2 := cell6_2 hyy; have y3 := cell6_3 hyy; have y4 := cell6_4 hyy; have y5 := cell6_5 hyy; have e0 := cell3_f hyy 0; have e1 := cell3_f hyy 1; have e2 := cell3_f hyy 2; have e3 := cell3_f hyy 3; have e4 := cell3_f hyy 4; have e5 := cell3_f hyy 5))))
        all_goals (go_wp2_with (fail); go_meet; (first | with_reducible refine gap_after (L := wc.heap.size) hb11 ?_ (NdAt.wider HTB.out ?_) | with_reducible refine gap_ahead (NB := wc.heap.size) hb11 ?_ hyy (NdAt.wider HTB.out ?_)); (focus exact hsz9); intro x hx; (first | (simp at hx; omega) | exact hx))
      case rest =>
        obtain ⟨rfl, hb12, NB, Ab, cb, Kb, kb, rfl, hNB, hTB⟩ := hcut
        have q0 := cell6_0 hNB
        have q1 := cell6_1 hNB
        have q2 := cell6_2 hNB
        have q3 := cell6_3 hNB
        have q4 := cell6_4 hNB
        have q5 := cell6_5 hNB
        have ql := cell_lt hNB
        have HB12 := Lib.hid hb12
        have HSW := Lib.hid (exprShow_any 25 _ _ b wc hTB HR1.out (HG.out.below hb12 hGl))
        clear hb12 hNB hTB
        go_wp2_with (fail)
        refine HSW.out.mono ?_
        clear HSW
        rw [HR2.out]
        rintro e w13 ⟨he, hb13⟩
        obtain rfl : e = .returned (.tuple #[.string ⟨r.toArray⟩, .int .i64 0]) := he
        have HB13 := Lib.hid (HB12.out.trans (hb13.mono HB12.out.size))
        clear hb13 q0 q1 q2 q3 q4 q5
        obtain ⟨rb, hrb⟩ : ∃ rb : ByteArray, rb = ⟨r.toArray⟩ := ⟨_, rfl⟩
        have hrz : rb.size = r.length := by rw [hrb]; simp [ByteArray.size]
        rw [← hrb]
        have hd : rb = pb ∨ ((rb.toList == pb.toList) = false ∧ rb.size = pb.size + 2) := by
          rcases Decidable.em (r = strp false (bl s)) with e1 | e1
          · exact .inl (by rw [hrb, e1, ← HPB.out])
          · refine .inr ⟨by rw [hrb, HPB.out]; simp [e1], ?_⟩
            rcases HR3.out with e2 | e2
            · exact absurd (e2.trans HBL.out) e1
            · rw [hrz, e2, bl_length]
        clear hrb hrz
        rcases hd with hd | ⟨hne, hdz⟩
        · subst hd
          go_wp2_with (fail)
          refine (HAWK.out _ HB13.out).mono ?_
          rintro e wz ⟨rfl, hbz⟩
          go_wp2_with (fail)
          go_ret
          exact ⟨rfl, HB13.out.trans (hbz.mono (HB13.out).size)⟩
        · have hzz : (((rb.size : Int)) == (pb.size : Int) + 2) = true := by rw [hdz]; simp
          go_wp2_with (fail)
          refine (HAWK.out _ HB13.out).mono ?_
          rintro e wz ⟨rfl, hbz⟩
          go_wp2_with (fail)
          go_ret
          exact ⟨rfl, HB13.out.trans (hbz.mono (HB13.out).size)⟩
end Go.Proofs.YtdmkcemgbajdkaaDoor
