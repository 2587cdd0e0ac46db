/-
Stage 11: awake.
-/
import Derived.Test.YtllnamhgnbdkmaaGreatDoorYb
import Derived.Test.YtllnamhgnbdkmaaGreatDoorJp
import Derived.Test.YtllnamhgnbdkmaaGreatDoorJj
import Derived.KernelRfl
set_option linter.unusedVariables false
set_option linter.unusedSimpArgs false
namespace Go.Proofs.YtllnamhgnbdkmaaGreatDoor
open Go.RowKit Go.Shelf
def awT : List UInt8 := [115, 111, 117, 114, 99, 101, 32, 105, 110, 116, 10, 115, 105, 110, 107, 32, 48, 10]
def awN : List Gn := [{ gz 1 with ty := ⟨2, []⟩ }, { gz 6 with ins := [0] }]
theorem aw_lines (q : List UInt8 → Option (List Int)) : rdLines q awT.length awT = (2, some awN) := by kernel_rfl
theorem aw_chk : chkAll awN = (0, 0) := by kernel_rfl
theorem aw_show : textP awN = awT := by kernel_rfl
theorem aw_users : usersP awN 0 = [1] := by kernel_rfl
theorem aw_parse (q : List UInt8 → Option (List Int)) : parseP q awT = (0, 0, awN) := by
  unfold parseP
  rw [aw_lines]
  exact if_pos (congrArg Prod.snd aw_chk)
theorem aw_showP : showP awN = awT := by
  unfold showP
  rw [if_pos (congrArg Prod.snd aw_chk), aw_show]
theorem aw_okR : okR awN (usersP awN 0) = [1] := by
  unfold okR
  rw [aw_users]
  exact if_pos (congrArg Prod.snd aw_chk)
theorem aw_few : FewG awN := by
  intro n hn
  simp only [awN, List.mem_cons, List.not_mem_nil, or_false] at hn
  rcases hn with rfl | rfl <;> exact ⟨by decide, by decide⟩
theorem aw_rng : ∀ n ∈ awN, GnR n := by
  intro n hn
  simp only [awN, List.mem_cons, List.not_mem_nil, or_false] at hn
  rcases hn with rfl | rfl <;> exact ⟨by simp [InR, gz], by simp [InR, gz], ⟨by decide, by decide⟩, ⟨by decide, by decide⟩, ⟨by decide, by decide⟩, ⟨by decide, by decide⟩, ⟨by decide, by decide⟩, ⟨by decide, by decide⟩, ⟨by decide, by decide⟩⟩
theorem aw_sh {v : Value} {W : World} (h : Calls Tryz.prog 15 #[.agg #[v]] W fun e w' => e = .returned (.tuple #[.string ⟨(showP awN).toArray⟩, .int .i64 (chkAll awN).2]) ∧ Below W.heap.size W w') : Calls Tryz.prog 15 #[.agg #[v]] W fun e w' => e = .returned (.tuple #[.string ⟨#[115, 111, 117, 114, 99, 101, 32, 105, 110, 116, 10, 115, 105, 110, 107, 32, 48, 10]⟩, .int .i64 0]) ∧ Below W.heap.size W w' := by
  rw [aw_showP, aw_chk] at h
  exact h
set_option maxRecDepth 100000 in
set_option maxHeartbeats 1000000 in
theorem awake_any {q : List UInt8 → Option (List Int)} (hq : PlacesOk q) (hq2 : ∀ line n, lineR q line = some n → n.ins.length ≤ 1000000 ∧ n.side.length ≤ 1000000) (w : World) (hG : Gk w) :
    Calls Tryz.prog 11 #[] w fun e w' => e = .returned (.bool true) ∧ Below w.heap.size w w' := by
  have hp := parse_any hq hq2 awT w (by decide) hG
  rw [aw_parse] at hp
  have HP : Hid (Calls Tryz.prog 16 #[.string ⟨#[115, 111, 117, 114, 99, 101, 32, 105, 110, 116, 10, 115, 105, 110, 107, 32, 48, 10]⟩] w fun e w' => ParseOut w w' e (0, 0, awN)) := Lib.hid hp
  have HG := Lib.hid hG
  clear hp hG hq hq2
  go_enter Tryz.func11, Tryz.ntmps11
  go_wp2_with (first
    | (go_at_call 16; (with_reducible refine HP.out.mono ?_); rintro e w1 ⟨⟨v, rfl, hgs⟩, hb1⟩; obtain ⟨A, c, hv0⟩ := hgs.form; (obtain rfl : v = .slice A 2 c := hv0); have HGS := Lib.hid (show GsAt w1 _ 6 (.slice A 2 c) awN from hgs); have HB1 := Lib.hid hb1; have HSH : Hid (∀ W, Below w1.heap.size w1 W → Calls Tryz.prog 15 #[.agg #[.slice A 2 c]] W fun e w' => e = .returned (.tuple #[.string ⟨#[115, 111, 117, 114, 99, 101, 32, 105, 110, 116, 10, 115, 105, 110, 107, 32, 48, 10]⟩, .int .i64 0]) ∧ Below W.heap.size W w') := Lib.hid (fun W hb => aw_sh (show_any W _ 6 _ awN (HGS.out.below hb) aw_few (by decide) aw_rng (HG.out.below (bl_tr hb1 hb)))); have hus := fun W (hb : Below w1.heap.size w1 W) => users_any W _ 6 _ awN 0 (HGS.out.below hb) aw_few (by decide) (HG.out.below (bl_tr hb1 hb)); rw [aw_okR] at hus; have HUS := Lib.hid hus; clear hgs hb1 hus)
    | (go_at_call 15; (with_reducible refine (HSH.out _ (bl_al (Below.refl _ _) _)).mono ?_); rintro e w2 ⟨rfl, hb2⟩; have hx2 := bl_blk hb2 (heap_alloc_new w1 _); have x0 := cellN (i := 0) (x := .slice A 2 c) hx2 rfl; have HB2 := Lib.hid (bl_tr (bl_al (Below.refl _ _) _) hb2); clear hx2 hb2)
    | (go_at_call 23; (with_reducible refine (HUS.out _ HB2.out).mono ?_); rintro e w3 ⟨⟨v3, rfl, hi⟩, hb3⟩; obtain ⟨A3, c3, hv3⟩ := hi.form; (obtain rfl : v3 = .slice A3 1 c3 := hv3); have HB3 := Lib.hid (bl_tr HB1.out (bl_tr HB2.out hb3)); clear hi hb3)
    | fail)
  go_ret
  exact ⟨rfl, HB3.out⟩
end Go.Proofs.YtllnamhgnbdkmaaGreatDoor
