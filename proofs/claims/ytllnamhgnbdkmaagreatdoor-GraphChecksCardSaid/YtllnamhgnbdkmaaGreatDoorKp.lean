/-
Stage 11: numberOf, readNumber, readPlace. Ported from the texts of layer 2: kind.Parse.
-/
import Derived.Test.YtllnamhgnbdkmaaGreatDoorJq
import Derived.Test.YtllnamhgnbdkmaaGreatDoorJe
import Derived.Lib.AtoiErrMem
set_option linter.unusedVariables false
set_option linter.unusedSimpArgs false
namespace Go.Proofs.YtllnamhgnbdkmaaGreatDoor
open Go.RowKit Go.Shelf

/-- What Atoi answers with. -/
def AtOut (e : Ending) : Lib.NumEnd Int → Prop
  | .ok v => e = .returned (.tuple #[.int .i64 v, .nilIface])
  | _ => ∃ n t p, e = .returned (.tuple #[.int .i64 n, .iface t (.pointer (some p))])
theorem atoi_any (s : List UInt8) (w : World) (hs : s.length ≤ 1000000) (hG : Gk w) :
    Calls Tryz.prog 144 #[.string ⟨s.toArray⟩] w fun e w' => AtOut e (Lib.atoiAll s) ∧ Below w.heap.size w w' := by
  have hsz : (ByteArray.mk s.toArray).size = s.length := by simp [ByteArray.size]
  cases h : Lib.atoiAll s with
  | ok v =>
    refine (Tryz.strconv_Atoi_ok ⟨s.toArray⟩ (by omega) v h w).mono ?_
    rintro e w' ⟨he, hw⟩
    refine ⟨he, ?_⟩
    rcases hw with rfl | ⟨t, rfl⟩
    · exact Below.refl _ _
    · exact Lib.bytesWorld_below _ _ _
  | «syntax» =>
    obtain ⟨ev, h1, h2⟩ := hG.es
    refine (Tryz.strconv_Atoi_syntax ⟨s.toArray⟩ (by omega) h ev w h1 h2).mono ?_
    rintro e w' ⟨N, he, _, _, hb⟩
    exact ⟨⟨_, _, _, he⟩, hb⟩
  | range =>
    obtain ⟨ev, h1, h2⟩ := hG.er
    refine (Tryz.strconv_Atoi_range ⟨s.toArray⟩ (by omega) h ev w h1 h2).mono ?_
    rintro e w' ⟨N, he, _, _, hb⟩
    exact ⟨⟨_, _, _, he⟩, hb⟩

set_option maxRecDepth 100000 in
set_option maxHeartbeats 1000000 in
theorem numberOf_any (s : List UInt8) (most : Int) (w : World) (hs : s.length ≤ 1000000) (hm : most ≤ 9223372036854775807) (hG : Gk w) :
    Calls Tryz.prog 131 #[.string ⟨s.toArray⟩, .int .i64 most] w fun e w' => (∃ n, e = .returned (.tuple #[.int .i64 n, .bool (goodN s most).isSome]) ∧ ∀ v, goodN s most = some v → n = v) ∧ Below w.heap.size w w' := by
  have HAT := Lib.hid (atoi_any s w hs hG)
  have HG := Lib.hid hG
  clear hG
  cases h : Lib.atoiAll s with
  | ok v =>
    rw [h] at HAT
    by_cases hin : 0 ≤ v ∧ v ≤ most
    · have HW := fun (W : World) => Lib.hid (gwithin_yes v 0 most W hin.1 hin.2)
      have HIT : Hid (∀ W : World, Below w.heap.size w W → Calls Tryz.prog 101 #[.int .i64 v] W fun e w' => e = .returned (.string ⟨(Lib.itoa v).toArray⟩) ∧ Below W.heap.size W w') := Lib.hid fun W hb => itoa_b v (by omega) (by omega) W (HG.out.below hb).tb
      by_cases he : Lib.itoa v = s
      · have HGD : Hid (goodN s most = some v) := Lib.hid (by unfold goodN; rw [h]; simp only; rw [if_pos ⟨hin, he⟩])
        have heb : (Lib.itoa v == s) = true := by simp [he]
        clear hin he h
        go_enter Tryz.func131, Tryz.ntmps131
        go_wp2_with (first
          | (go_at_call 144; (with_reducible refine HAT.out.mono ?_); rintro e w1 ⟨he1, hb1⟩; (obtain rfl : e = Ending.returned (.tuple #[.int .i64 v, .nilIface]) := he1); have HB1 := Lib.hid hb1; clear hb1)
          | (go_at_call 67; (with_reducible refine (HW _).out.mono ?_); rintro e w2 ⟨rfl, rfl⟩)
          | (go_at_call 101; (with_reducible refine (HIT.out _ HB1.out).mono ?_); rintro e w3 ⟨rfl, hb3⟩; have HB3 := Lib.hid (bl_tr HB1.out hb3); clear hb3)
          | fail)
        go_ret2
        rw [HGD.out]
        exact ⟨⟨v, rfl, fun x hx => Option.some.inj hx⟩, HB3.out⟩
      · have HGD : Hid (goodN s most = none) := Lib.hid (by unfold goodN; rw [h]; simp only; rw [if_neg (fun k => he k.2)])
        have heb : (Lib.itoa v == s) = false := by simp [he]
        clear hin he h
        go_enter Tryz.func131, Tryz.ntmps131
        go_wp2_with (first
          | (go_at_call 144; (with_reducible refine HAT.out.mono ?_); rintro e w1 ⟨he1, hb1⟩; (obtain rfl : e = Ending.returned (.tuple #[.int .i64 v, .nilIface]) := he1); have HB1 := Lib.hid hb1; clear hb1)
          | (go_at_call 67; (with_reducible refine (HW _).out.mono ?_); rintro e w2 ⟨rfl, rfl⟩)
          | (go_at_call 101; (with_reducible refine (HIT.out _ HB1.out).mono ?_); rintro e w3 ⟨rfl, hb3⟩; have HB3 := Lib.hid (bl_tr HB1.out hb3); clear hb3)
          | fail)
        go_ret2
        rw [HGD.out]
        exact ⟨⟨v, rfl, fun x hx => by cases hx⟩, HB3.out⟩
    · have HW := fun (W : World) => Lib.hid (gwithin_no v 0 most W hin)
      have HGD : Hid (goodN s most = none) := Lib.hid (by unfold goodN; rw [h]; simp only; rw [if_neg (fun k => hin k.1)])
      clear hin h
      go_enter Tryz.func131, Tryz.ntmps131
      go_wp2_with (first
        | (go_at_call 144; (with_reducible refine HAT.out.mono ?_); rintro e w1 ⟨he1, hb1⟩; (obtain rfl : e = Ending.returned (.tuple #[.int .i64 v, .nilIface]) := he1); have HB1 := Lib.hid hb1; clear hb1)
        | (go_at_call 67; (with_reducible refine (HW _).out.mono ?_); rintro e w2 ⟨rfl, rfl⟩)
        | fail)
      go_ret2
      rw [HGD.out]
      exact ⟨⟨v, rfl, fun x hx => by cases hx⟩, HB1.out⟩
  | «syntax» =>
    rw [h] at HAT
    have HGD : Hid (goodN s most = none) := Lib.hid (by unfold goodN; rw [h])
    clear h
    go_enter Tryz.func131, Tryz.ntmps131
    go_wp2_with (go_at_call 144; (with_reducible refine HAT.out.mono ?_); rintro e w1 ⟨he1, hb1⟩; obtain ⟨m, te, pe, rfl⟩ : ∃ n t p, e = .returned (.tuple #[.int .i64 n, .iface t (.pointer (some p))]) := he1; have HB1 := Lib.hid hb1; clear hb1)
    go_ret2
    rw [HGD.out]
    exact ⟨⟨m, rfl, fun x hx => by cases hx⟩, HB1.out⟩
  | range =>
    rw [h] at HAT
    have HGD : Hid (goodN s most = none) := Lib.hid (by unfold goodN; rw [h])
    clear h
    go_enter Tryz.func131, Tryz.ntmps131
    go_wp2_with (go_at_call 144; (with_reducible refine HAT.out.mono ?_); rintro e w1 ⟨he1, hb1⟩; obtain ⟨m, te, pe, rfl⟩ : ∃ n t p, e = .returned (.tuple #[.int .i64 n, .iface t (.pointer (some p))]) := he1; have HB1 := Lib.hid hb1; clear hb1)
    go_ret2
    rw [HGD.out]
    exact ⟨⟨m, rfl, fun x hx => by cases hx⟩, HB1.out⟩

end Go.Proofs.YtllnamhgnbdkmaaGreatDoor
namespace Go.Proofs.YtllnamhgnbdkmaaGreatDoor.Knd
open Go.RowKit

set_option maxRecDepth 100000 in
set_option maxHeartbeats 1000000 in
theorem parse_any (s : ByteArray) (w : World) (hs : s.size ≤ 1000000) (hG : Glob w) :
    Calls Tryz.prog 129 #[.string s] w fun e w' => PaOut w w' e (parseT s.data.toList) ∧ Below w.heap.size w w' := by
  have hGl := hG.lt
  have hrt := readT_le 6 s.data.toList
  simp only [Array.length_toList, ByteArray.size_data] at hrt
  go_enter Tryz.func129, Tryz.ntmps129
  go_wp2_with (fail)
  refine (readType_any 6 (w.heap.size + 1) s 0 _ (by omega) (by omega) (by unfold Rdr; simpa using heap_alloc_new (w.alloc _) _) hs (by omega) ((hG.kept (Below.heap_alloc w _ 2 hG.lt)).kept (Below.heap_alloc _ _ 2 (by simp <;> omega))) (by omega)).mono ?_
  rw [List.drop_zero, Nat.zero_add]
  cases hq : readT 6 s.data.toList with
  | mk k o =>
  rw [hq] at hrt
  have hsl : s.data.toList.length = s.size := by simp
  cases o with
  | none =>
    have HP : Hid (parseT s.data.toList = (k, none)) := by show _ = _; rw [parseT, hq]
    clear hq
    rintro e w1 ⟨v, rfl, hv, hr, hon⟩
    obtain rfl : v = .agg #[.int .i64 0, .slice none 0 0] := hv
    have hc := pa_cell hon
    have hb := pa_below hon
    have f0 := cell2_0 hc
    have f1 := cell2_1 hc
    have f2 := cell3_f hc 0
    have f3 := cell3_f hc 1
    have hcz := two_stored (two_stored hc (.int .i64 0) (.slice none 0 0)) (.int .i64 0) (.slice none 0 0)
    have z0 := cell2_0 hcz
    have z1 := cell2_1 hcz
    have r0 := hr.c0
    have r1 := hr.c1
    have rl := hr.lt
    go_wp2
    go_region
    all_goals
      go_wp2
      refine bodyPost_ret (v := .tuple #[.agg #[.int .i64 0, .slice none 0 0], .int .i64 (k : Int), .int .i64 40]) (by simp [results, Tryz.results129, go_sem, z0, z1]) rfl ?_
      rw [HP.out]
      refine ⟨rfl, ?_⟩
      first
        | exact (((hb.setCell (Nat.le_refl _) _).setCell (Nat.le_refl _) _).setCell (Nat.le_refl _) _).setCell (Nat.le_refl _) _
        | exact ((((hb.setCell (Nat.le_refl _) _).setCell (Nat.le_refl _) _).setCell (Nat.le_refl _) _).setCell (Nat.le_refl _) _).drew
  | some t =>
    have HP : Hid (parseT s.data.toList = if k < s.size then (k, none) else (0, some t)) := by show _ = _; rw [parseT, hq, hsl]
    clear hq
    rintro e w1 ⟨v, rfl, hv, hr, hon⟩
    obtain ⟨A, c, rfl⟩ := TyAt.form hv
    have HV := Lib.hid hv
    have hc := pa_cell hon
    have hb := pa_below hon
    have f0 := cell2_0 hc
    have f1 := cell2_1 hc
    have f2 := cell3_f hc 0
    have f3 := cell3_f hc 1
    have hcz := two_stored (two_stored hc (.int .i64 t.kind) (.slice A t.args.length c)) (.int .i64 0) (.slice none 0 0)
    have z0 := cell2_0 hcz
    have z1 := cell2_1 hcz
    have hcy := two_stored (two_stored hc (.int .i64 t.kind) (.slice A t.args.length c)) (.int .i64 t.kind) (.slice A t.args.length c)
    have y0 := cell2_0 hcy
    have y1 := cell2_1 hcy
    have r0 := hr.c0
    have r1 := hr.c1
    have rl := hr.lt
    clear hv
    by_cases hk : k < s.size
    · have HP2 : Hid (parseT s.data.toList = (k, none)) := by show _ = _; rw [HP.out, if_pos hk]
      go_wp2
      go_region
      all_goals
        go_wp2
        refine bodyPost_ret (v := .tuple #[.agg #[.int .i64 0, .slice none 0 0], .int .i64 (k : Int), .int .i64 40]) (by simp [results, Tryz.results129, go_sem, z0, z1]) rfl ?_
        rw [HP2.out]
        refine ⟨rfl, ?_⟩
        first
          | exact (((hb.setCell (Nat.le_refl _) _).setCell (Nat.le_refl _) _).setCell (Nat.le_refl _) _).setCell (Nat.le_refl _) _
          | exact ((((hb.setCell (Nat.le_refl _) _).setCell (Nat.le_refl _) _).setCell (Nat.le_refl _) _).setCell (Nat.le_refl _) _).drew
    · have HP2 : Hid (parseT s.data.toList = (0, some t)) := by show _ = _; rw [HP.out, if_neg hk]
      go_wp2
      refine bodyPost_ret (v := .tuple #[.agg #[.int .i64 t.kind, .slice A t.args.length c], .int .i64 0, .int .i64 0]) (by simp [results, Tryz.results129, go_sem, y0, y1]) rfl ?_
      rw [HP2.out]
      refine ⟨⟨_, rfl, TyAt.move (fun b hS hl => ?_) _ _ _ HV.out⟩, (((hb.setCell (Nat.le_refl _) _).setCell (Nat.le_refl _) _).setCell (Nat.le_refl _) _).setCell (Nat.le_refl _) _⟩
      have hS' : w.heap.size + 1 + 1 ≤ b := by simpa using hS
      exact ⟨by omega, fun o => World.cell?_of_block (by rw [Below.heap_setCell _ _ _ _ (by show b ≠ w.heap.size; omega), Below.heap_setCell _ _ _ _ (by show b ≠ w.heap.size; omega), Below.heap_setCell _ _ _ _ (by show b ≠ w.heap.size; omega), Below.heap_setCell _ _ _ _ (by show b ≠ w.heap.size; omega)])⟩


end Go.Proofs.YtllnamhgnbdkmaaGreatDoor.Knd
