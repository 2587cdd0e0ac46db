/-
The fixed answer that the statements ask for: awake.
-/
import Derived.Test.YtadbnlnifacblaaGreatDoorWu
import Derived.Test.YtadbnlnifacblaaGreatDoorRp
import Derived.KernelRfl
import Derived.Test.YtadbnlnifacblaaGreatDoorQeA
import Derived.Test.YtadbnlnifacblaaGreatDoorQeL
import Derived.Test.YtadbnlnifacblaaGreatDoorQeW
import Derived.Test.YtadbnlnifacblaaGreatDoorQeD
import Derived.Test.YtadbnlnifacblaaGreatDoorQeT
import Derived.Test.YtadbnlnifacblaaGreatDoorStp
import Derived.Test.YtadbnlnifacblaaGreatDoorOsn
namespace Go.Proofs.YtadbnlnifacblaaGreatDoor
open Go.RowKit
def sA : List UInt8 := [97, 100, 100, 40, 32, 105, 116, 44, 32, 49, 41]
def sA2 : List UInt8 := [97, 100, 100, 40, 105, 116, 44, 49, 41]
def sB : List UInt8 := [97, 100, 100, 40, 49, 41]
def ndA : Nd := .mk [97, 100, 100] 0 [] ty0 [.mk [105, 116] 0 [] ty0 [], .mk intW 1 [] ty0 []]
theorem parse_A : parseR Knd.parseT sA = (11, some ndA) := by kernel_rfl
theorem parse_B : parseR Knd.parseT sB = (5, none) := by kernel_rfl
theorem itoa_1 : Lib.itoa 1 = [49] := by
  unfold Lib.itoa
  rw [if_neg (by decide), Lib.decDigits, dif_pos (by decide)]
  rfl
theorem term_A : termW 24 ndA ([], 0) = some ([97, 100, 100, 40, 105, 116, 44] ++ Lib.itoa 1 ++ [41], 3) := by kernel_rfl
theorem show_A : showW ndA = some (sA2, 3) := by
  unfold showW
  rw [term_A, itoa_1]
  rfl
theorem rg_A : RgN 24 ndA := by
  refine ⟨by decide, by decide, by decide, fun k hk => ?_⟩
  rcases List.mem_cons.1 hk with rfl | hk
  · exact ⟨by decide, by decide, by decide, fun k hk => by cases hk⟩
  · rcases List.mem_cons.1 hk with rfl | hk
    · exact ⟨by decide, by decide, by decide, fun k hk => by cases hk⟩
    · cases hk
set_option maxRecDepth 100000 in
set_option maxHeartbeats 1000000 in
theorem awake_any (w : World) (hG : Gl w) : Calls Tryz.prog 12 #[] w fun e w' => e = .returned (.bool true) ∧ Below w.heap.size w w' := by
  have hGl := hG.lt2
  go_enter Tryz.func12, Tryz.ntmps12
  go_wp2_with (fail)
  refine (exprParse_any ⟨sA.toArray⟩ w (by decide) hG.kd).mono ?_
  rw [show bl (ByteArray.mk sA.toArray) = sA from rfl, parse_A]
  rintro e w1 ⟨⟨v, rfl, hT⟩, hb1⟩
  obtain ⟨A, c, K, k, rfl⟩ := hT.form
  have HT := Lib.hid hT
  have hs1 := hb1.size
  clear hT
  go_wp2_with (fail)
  have hb2 := hb1.alloc hs1 (.cells #[.string ⟨ndA.op.toArray⟩, .int .i64 ndA.int, .string ⟨ndA.text.toArray⟩, .int .i64 ndA.ty.kind, .slice A ndA.ty.args.length c, .slice K ndA.kids.length k] 27)
  have hs2 : (w1.alloc (.cells #[.string ⟨ndA.op.toArray⟩, .int .i64 ndA.int, .string ⟨ndA.text.toArray⟩, .int .i64 ndA.ty.kind, .slice A ndA.ty.args.length c, .slice K ndA.kids.length k] 27)).heap.size = w1.heap.size + 1 := by simp
  have hT2 := NdAt.below HT.out ((Below.refl _ w1).alloc (Nat.le_refl _) (.cells #[.string ⟨ndA.op.toArray⟩, .int .i64 ndA.int, .string ⟨ndA.text.toArray⟩, .int .i64 ndA.ty.kind, .slice A ndA.ty.args.length c, .slice K ndA.kids.length k] 27))
  generalize w1.alloc (.cells #[.string ⟨ndA.op.toArray⟩, .int .i64 ndA.int, .string ⟨ndA.text.toArray⟩, .int .i64 ndA.ty.kind, .slice A ndA.ty.args.length c, .slice K ndA.kids.length k] 27) = w2 at *
  refine (exprShow_any 25 _ _ ndA w2 hT2 rg_A (hG.below hb2 hGl)).mono ?_
  rw [show_A]
  clear hT2 HT
  rintro e w3 ⟨he, hb3⟩
  obtain rfl : e = .returned (.tuple #[.string ⟨sA2.toArray⟩, .int .i64 0]) := he
  have hb13 := hb2.trans (hb3.mono (by omega))
  have hs3 := hb3.size
  go_wp2_with (fail)
  refine (exprParse_any ⟨sB.toArray⟩ w3 (by decide) (hG.below hb13 hGl).kd).mono ?_
  rw [show bl (ByteArray.mk sB.toArray) = sB from rfl, parse_B]
  rintro e w4 ⟨he, hb4⟩
  obtain rfl : e = .returned (.tuple #[.agg #[.string ⟨#[]⟩, .int .i64 0, .string ⟨#[]⟩, .int .i64 0, .slice none 0 0, .slice none 0 0], .int .i64 ((5 : Nat) : Int), .int .i64 40]) := he
  have hb14 := hb13.trans (hb4.mono (by omega))
  have hs4 := hb4.size
  go_wp2_with (fail)
  go_ret
  exact ⟨rfl, by first | exact hb14 | exact hb14.alloc (by omega) _⟩
end Go.Proofs.YtadbnlnifacblaaGreatDoor
namespace Go.Proofs.YtadbnlnifacblaaGreatDoor
open Go.RowKit
theorem expr_step (r : Nat) (hr : r ≤ 23) (IH : 0 < r → ExD r) : ExD (r + 1) := by
  intro s m w hs hm
  show ExC r s m w
  by_cases hA : isLet (lkB (bl s) (skip (bl s) m)) = true ∧ ¬ ((spel (bl s) (skip (bl s) m)).length = 16 ∧ nmB (lkB (bl s) (skip (bl s) m + 16)) = true) ∧ ∃ p least, wdP (spel (bl s) (skip (bl s) m)) = some (p, least) ∧ p ≠ [] ∧ (hasB p 101 = true → ¬ r = 0)
  · obtain ⟨hL, hZ, p, least, hw, hp, hr0⟩ := hA
    have one : ∀ {C : List UInt8 → Prop}, C p → ∀ p' least', wdP (spel (bl s) (skip (bl s) m)) = some (p', least') → C p' := fun hC p' l' h => by
      rw [hw] at h
      injection h with h
      injection h with h1 _
      rw [← h1]
      exact hC
    have hN : wdP (spel (bl s) (skip (bl s) m)) = none → False := fun h => by rw [hw] at h; cases h
    cases hb : hasB p 101 with
    | true =>
      by_cases hS : spel (bl s) (skip (bl s) m) = listW
      · exact expr_stepBL r hr IH s m w hs hm (one (C := fun p => hasB p 101 = true) hb) hL hZ hN (hr0 hb) hS
      · exact expr_stepBW r hr IH s m w hs hm (one (C := fun p => hasB p 101 = true) hb) hL hZ hN (hr0 hb) hS
    | false =>
      by_cases hT : p = [116]
      · exact expr_stepT r hr IH s m w hs hm (one (C := fun p => hasB p 101 = false ∧ p ≠ [100] ∧ p ≠ []) ⟨hb, by rw [hT]; decide, hp⟩) hL hZ hN
      · exact expr_stepD r hr IH s m w hs hm (one (C := fun p => hasB p 101 = false ∧ p ≠ [116] ∧ p ≠ []) ⟨hb, hT, hp⟩) hL hZ hN
  · exact expr_stepA r hr IH s m w hs hm fun h1 h2 p least hw hp => ⟨fun hb hr0 => hA ⟨h1, h2, p, least, hw, hp, fun _ => hr0⟩, fun hb => hA ⟨h1, h2, p, least, hw, hp, fun h => by rw [hb] at h; cases h⟩⟩
theorem ex_d : ∀ r, r ≤ 24 → 0 < r → ExD r
  | 0, _, h => absurd h (by omega)
  | r + 1, h, _ => expr_step r (by omega) (fun h0 => ex_d r (by omega) h0)
def PaO (w w' : World) (e : Ending) : Nat × Option Nd → Prop
  | (m, none) => e = .returned (.tuple #[.agg #[.string ⟨#[]⟩, .int .i64 0, .string ⟨#[]⟩, .int .i64 0, .slice none 0 0, .slice none 0 0], .int .i64 (m : Int), .bool false])
  | (_, some n) => ∃ d v, e = .returned (.tuple #[v, .int .i64 0, .bool true]) ∧ NdAt w' (fun b => w.heap.size ≤ b) d v n
theorem rel_none {l : List UInt8} {m : Nat} (h : RelD l (m, none) (exprR Knd.parseT l 24 (skip l 0))) : parseR Knd.parseT l = (m, none) := by
  rw [parse_at]
  rcases h with h | ⟨e, x, h1, h2, h3⟩
  · rw [← h]
    rfl
  · rw [h1]
    injection h2 with h2 _
    subst h2
    have hs := blD_skip h3
    have hlt : m < l.length := lkB_lt (by intro h; unfold BlD at h3; rw [h] at h3; exact absurd h3 (by decide))
    show (if skip l m < l.length then (skip l m, none) else (skip l m, some x)) = (m, none)
    rw [hs, if_pos hlt]
theorem rel_some {l : List UInt8} {m : Nat} {n : Nd} (h : RelD l (m, some n) (exprR Knd.parseT l 24 (skip l 0))) : parseR Knd.parseT l = if skip l m < l.length then (skip l m, none) else (skip l m, some n) := by
  rw [parse_at]
  rcases h with h | ⟨e, x, h1, h2, h3⟩
  · rw [← h]
    rfl
  · cases h2
set_option maxRecDepth 100000 in
set_option maxHeartbeats 4000000 in
theorem parse_d (s : ByteArray) (w : World) (hs : s.size ≤ 1000000) :
    Calls Tryz.prog 13 #[.string s] w fun e w' => PaO w w' e (parseR Knd.parseT (bl s)) ∧ Below w.heap.size w w' := by
  have hX := ex_d 24 (by omega) (by omega) s 0
  rw [show ((0 : Nat) : Int) = 0 from rfl, show ((24 : Nat) : Int) = 24 from rfl] at hX
  have HX := Lib.hid hX
  clear hX
  have hbl := bl_length s
  have hb0 := (Below.refl w.heap.size w).alloc (Nat.le_refl _) (.cells #[.string ⟨#[]⟩, .int .i64 0, .string ⟨#[]⟩, .int .i64 0, .slice none 0 0, .slice none 0 0] 37)
  have HC0 := Lib.hid (heap_alloc_new w (.cells #[.string ⟨#[]⟩, .int .i64 0, .string ⟨#[]⟩, .int .i64 0, .slice none 0 0, .slice none 0 0] 37))
  have hs0 : (w.alloc (.cells #[.string ⟨#[]⟩, .int .i64 0, .string ⟨#[]⟩, .int .i64 0, .slice none 0 0, .slice none 0 0] 37)).heap.size = w.heap.size + 1 := by simp
  have HB0 := Lib.hid hb0
  clear hb0
  go_enter Tryz.func13, Tryz.ntmps13
  go_wp2_with (fail)
  generalize w.alloc (.cells #[.string ⟨#[]⟩, .int .i64 0, .string ⟨#[]⟩, .int .i64 0, .slice none 0 0, .slice none 0 0] 37) = w0 at *
  refine (HX.out w0 hs (by omega)).mono ?_
  rintro e w1 ⟨⟨dk, hR, ⟨k0, k1, k2, k3, KA, kn, kc, KK, km, kk, rfl, hn⟩, hle⟩, hb1⟩
  obtain ⟨m1, o⟩ := dk
  have hm1 : m1 ≤ s.size := hle
  have HR := Lib.hid hR
  have Hn := Lib.hid hn
  have HB1 := Lib.hid (HB0.out.trans (hb1.mono (by omega)))
  have HC1 := Lib.hid (below_at hb1 HC0.out)
  have hs1 := hb1.size
  have hba := (Below.refl w1.heap.size w1).alloc (Nat.le_refl _) (.cells #[.string k0, .int .i64 k1, .string k2, .int .i64 k3, .slice KA kn kc, .slice KK km kk] 37)
  have HB2 := Lib.hid (HB1.out.trans (hba.mono (by omega)))
  have HC2 := Lib.hid ((hba.block w.heap.size (by omega)).trans HC1.out)
  have HK2 := Lib.hid (heap_alloc_new w1 (.cells #[.string k0, .int .i64 k1, .string k2, .int .i64 k3, .slice KA kn kc, .slice KK km kk] 37))
  have hs2 : (w1.alloc (.cells #[.string k0, .int .i64 k1, .string k2, .int .i64 k3, .slice KA kn kc, .slice KK km kk] 37)).heap.size = w1.heap.size + 1 := by simp
  have HBA := Lib.hid hba
  clear hR hn hb1 hle hba HX HC0 HB0 HC1 HB1
  cases o with
  | none =>
    have HP : Hid (parseR Knd.parseT (bl s) = (m1, none)) := rel_none HR.out
    go_upto_region 3 with (fail)
    generalize w1.alloc (.cells #[.string k0, .int .i64 k1, .string k2, .int .i64 k3, .slice KA kn kc, .slice KK km kk] 37) = w2 at *
    have z0 := cell6_0 HC2.out
    have z1 := cell6_1 HC2.out
    have z2 := cell6_2 HC2.out
    have z3 := cell6_3 HC2.out
    have z4 := cell6_4 HC2.out
    have z5 := cell6_5 HC2.out
    have zf0 := cell3_f HC2.out 0
    have zf1 := cell3_f HC2.out 1
    have zf2 := cell3_f HC2.out 2
    have zf3 := cell3_f HC2.out 3
    have zf4 := cell3_f HC2.out 4
    have zf5 := cell3_f HC2.out 5
    have zl := cell_lt HC2.out
    go_wp2_with (fail)
    refine bodyPost_ret (v := .tuple #[.agg #[.string ⟨#[]⟩, .int .i64 0, .string ⟨#[]⟩, .int .i64 0, .slice none 0 0, .slice none 0 0], .int .i64 (m1 : Int), .bool false]) (by simp [results, Tryz.results13, go_sem, z0, z1, z2, z3, z4, z5]) rfl ?_
    refine ⟨by rw [HP.out]; rfl, ?_⟩
    repeat' (first | with_reducible exact HB2.out | with_reducible refine Below.set_own ?_ ?_ | (dsimp only; omega))
  | some n =>
    obtain ⟨dd, hdd⟩ := Hn.out n rfl
    have HN2 := Lib.hid (NdAt.move (S' := fun b => w0.heap.size ≤ b) (fun b hb hl => ⟨hb, fun o => World.cell?_of_block (HBA.out.block b hl)⟩) dd _ _ hdd)
    obtain ⟨m2, hm2⟩ : ∃ m2, m2 = skip (bl s) m1 := ⟨_, rfl⟩
    have HP : Hid (parseR Knd.parseT (bl s) = if m2 < s.size then (m2, none) else (m2, some n)) := by
      show _ = _
      rw [rel_some HR.out, hm2, ← hbl]
    have HM2 := Lib.hid hm2
    clear hdd hm2 HBA
    go_upto_region 4 with (fail)
    generalize w1.alloc (.cells #[.string k0, .int .i64 k1, .string k2, .int .i64 k3, .slice KA kn kc, .slice KK km kk] 37) = w2 at *
    generalize w1.heap.size = KB at *
    have z0 := cell6_0 HC2.out
    have z1 := cell6_1 HC2.out
    have z2 := cell6_2 HC2.out
    have z3 := cell6_3 HC2.out
    have z4 := cell6_4 HC2.out
    have z5 := cell6_5 HC2.out
    have zf0 := cell3_f HC2.out 0
    have zf1 := cell3_f HC2.out 1
    have zf2 := cell3_f HC2.out 2
    have zf3 := cell3_f HC2.out 3
    have zf4 := cell3_f HC2.out 4
    have zf5 := cell3_f HC2.out 5
    have zl := cell_lt HC2.out
    have x0 := cell6_0 HK2.out
    have x1 := cell6_1 HK2.out
    have x2 := cell6_2 HK2.out
    have x3 := cell6_3 HK2.out
    have x4 := cell6_4 HK2.out
    have x5 := cell6_5 HK2.out
    have xl := cell_lt HK2.out
    go_wp2_with (fail)
    refine (skip_d s m1 w2 hs hm1).mono ?_
    rw [← HM2.out]
    rintro e w3 ⟨rfl, hw3⟩
    have hw4 := hw3.symm
    subst hw4
    by_cases hlt : m2 < s.size
    · have HF : Hid (parseR Knd.parseT (bl s) = (m2, none)) := by show _ = _; rw [HP.out, if_pos hlt]
      have hlI : (m2 : Int) < (s.size : Int) := by omega
      go_wp2_with (fail)
      refine bodyPost_ret (v := .tuple #[.agg #[.string ⟨#[]⟩, .int .i64 0, .string ⟨#[]⟩, .int .i64 0, .slice none 0 0, .slice none 0 0], .int .i64 (m2 : Int), .bool false]) (by simp [results, Tryz.results13, go_sem, z0, z1, z2, z3, z4, z5]) rfl ?_
      refine ⟨by rw [HF.out]; rfl, ?_⟩
      repeat' (first | with_reducible exact HB2.out | with_reducible refine Below.set_own ?_ ?_ | (dsimp only; omega))
    · have HF : Hid (parseR Knd.parseT (bl s) = (m2, some n)) := by show _ = _; rw [HP.out, if_neg hlt]
      have hlI : ¬ (m2 : Int) < (s.size : Int) := by omega
      have hKB : w.heap.size < KB := by omega
      go_wp2_with (fail)
      refine bodyPost_ret (v := .tuple #[.agg #[.string k0, .int .i64 k1, .string k2, .int .i64 k3, .slice KA kn kc, .slice KK km kk], .int .i64 0, .bool true]) (by simp [results, Tryz.results13, go_sem, z0, z1, z2, z3, z4, z5]) rfl ?_
      refine ⟨by rw [HF.out]; exact ⟨dd, _, rfl, NdAt.move (fun b hb _ => ⟨by have hb' : w0.heap.size ≤ b := hb; show w.heap.size ≤ b; omega, fun o => World.cell?_of_block (set6_block (by have hb' : w0.heap.size ≤ b := hb; show b ≠ w.heap.size; omega))⟩) dd _ _ HN2.out⟩, ?_⟩
      repeat' (first | with_reducible exact HB2.out | with_reducible refine Below.set_own ?_ ?_ | (dsimp only; omega))
end Go.Proofs.YtadbnlnifacblaaGreatDoor
namespace Go.Proofs.YtadbnlnifacblaaGreatDoor
open Go.RowKit
theorem nar_more : ∀ (d e : Nat) (t : Ty), d ≤ e → Nar d t → Nar e t
  | 0, _, _, _, h => h.elim
  | d + 1, e, t, hle, ⟨h0, h1⟩ => by
    obtain ⟨e', rfl⟩ : ∃ e', e = e' + 1 := ⟨e - 1, by omega⟩
    exact ⟨h0, fun a ha => nar_more d e' a (by omega) (h1 a ha)⟩
theorem nar_measure : ∀ (r : Nat) (t : Ty) (q : Nat), Knd.measureT r t = some q → Nar r t
  | 0, t, q, h => by simp [Knd.measureT] at h
  | r + 1, t, q, h => by
    obtain ⟨x, _, hxa, hxw, hall⟩ := Knd.measure_right h
    have hx2 := Knd.words_args x hxw
    exact ⟨by omega, fun a ha => by
      obtain ⟨q', hq⟩ := hall a ha
      exact nar_measure r a q' hq⟩
theorem wdN_len64 : (wdL.all fun x => decide (x.2.length ≤ 64)) = true := by decide +kernel
theorem wd_parts {t p : List UInt8} {least : Nat} (h : wdP t = some (p, least)) : p.length ≤ 64 := by
  unfold wdP at h
  split at h
  · injection h with h
    injection h with h1 h2
    rw [← h1]
    simp
  · obtain ⟨x, hx, e⟩ := Option.map_eq_some_iff.1 h
    injection e with h1 h2
    rw [← h1]
    have := List.all_eq_true.1 wdN_len64 x (List.mem_of_find?_eq_some hx)
    simpa using this
theorem kids_nar {f : Nd → StW → Option StW} {d : Nat} : ∀ (l : List Nd) (p : List UInt8) (mark : UInt8) (s s' : StW), (∀ n s s', f n s = some s' → NarN d n) → kidsW f l p mark s = some s' → ∀ k ∈ l, NarN d k
  | [], _, _, _, _, _, _, k, hk => by cases hk
  | _ :: _, [], _, _, _, _, h, _, _ => by simp [kidsW] at h
  | n :: l, p :: ps, mark, s, s', hf, h, k, hk => by
    unfold kidsW at h
    split at h
    · cases h
    · split at h
      · cases h
      · rename_i s2 h2
        rcases List.mem_cons.1 hk with rfl | hk
        · exact hf _ _ _ h2
        · exact kids_nar l ps 44 s2 s' hf h k hk
theorem term_nar : ∀ (r : Nat) (n : Nd) (s s' : StW), termW r n s = some s' → NarN r n
  | 0, n, s, s', h => by simp [termW] at h
  | r + 1, n, s, s', h => by
    have leaf : n.ty = ty0 → n.kids = [] → NarN (r + 1) n := fun h1 h2 => ⟨by rw [h1]; exact ⟨Nat.zero_le _, fun a ha => (by cases ha)⟩, by rw [h2]; exact Nat.zero_le _, fun k hk => by rw [h2] at hk; cases hk⟩
    unfold termW at h
    split at h
    · cases h
    · split at h
      · split at h
        · rename_i hb; exact leaf (bare_back hb).2.2.1 (bare_back hb).2.2.2
        · cases h
      · split at h
        · split at h
          · cases h
          · split at h
            · rename_i hb; exact leaf (bare_back hb).2.2.1 (bare_back hb).2.2.2
            · cases h
        · split at h
          · split at h
            · split at h
              · rename_i hb; exact leaf (bare_back hb).2.2.1 (bare_back hb).2.2.2
              · cases h
            · cases h
          · unfold wordW at h
            split at h
            · cases h
            · rename_i p least hw
              unfold wordP at h
              split at h
              · split at h
                · cases h
                · rename_i hk
                  obtain ⟨s1, e1, e2⟩ := Option.bind_eq_some_iff.1 h
                  split at e2
                  · rename_i hb
                    have hpl : p.length ≤ 64 := wd_parts hw
                    refine ⟨by rw [(bare_back hb).2.2.1]; exact ⟨Nat.zero_le _, fun a ha => (by cases ha)⟩, by omega, fun k hk => ?_⟩
                    exact kids_nar n.kids p 40 _ _ (fun m s s' h => term_nar r m s s' h) e1 k hk
                  · cases e2
              · split at h
                · split at h
                  · cases h
                  · split at h
                    · rename_i hb; exact leaf (bare_back hb).2.2.1 (bare_back hb).2.2.2
                    · cases h
                · split at h
                  · split at h
                    · rename_i hq
                      split at h
                      · rename_i hb
                        obtain ⟨q, hq⟩ := Option.isSome_iff_exists.1 hq
                        have hk := (bare_back hb).2.2.2
                        exact ⟨nar_more 6 30 _ (by decide) (nar_measure 6 n.ty q hq), by rw [hk]; exact Nat.zero_le _, fun k hk' => by rw [hk] at hk'; cases hk'⟩
                      · cases h
                    · cases h
                  · split at h
                    · rename_i hb; exact leaf (bare_back hb).2.2.1 (bare_back hb).2.2.2
                    · cases h
theorem show_nar {n : Nd} {x : StW} (h : showW n = some x) : NarN 24 n := by
  unfold showW at h
  split at h
  · cases h
  · rename_i s e
    exact term_nar 24 n _ _ e
end Go.Proofs.YtadbnlnifacblaaGreatDoor
