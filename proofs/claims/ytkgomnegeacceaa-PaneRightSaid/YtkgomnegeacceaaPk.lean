/-
The walk of PaneChecks.
-/
import Derived.Test.YtkgomnegeacceaaPt
set_option linter.unusedVariables false
namespace Go.Proofs.Ytkgomnegeacceaa
open Go.RowKit

/-- A nil slice is the nil slice. -/
def Prp (v : Value) : Prop := ∀ n c, v = .slice none n c → v = .slice none 0 0

/-- What Check told: K, and the error. -/
def ChkK (l : List Inf) (K : Nat) (code : Int) : Prop := K ≤ l.length ∧ GdL (l.take K) ∧ ((K = l.length ∧ code = 0) ∨ ∃ x, l[K]? = some x ∧ ¬ Fol (l.take K) x ∧ code = 90)

theorem chkK_of {l : List Inf} {e : Ending} (h : ChkOut l e) : ∃ K code, e = .returned (.tuple #[.int .i64 (K : Nat), .int .i64 code]) ∧ ChkK l K code := by
  rcases h with ⟨he, hg⟩ | ⟨k, x, hx, hg, hn, he⟩
  · exact ⟨l.length, 0, he, Nat.le_refl _, by rw [List.take_length]; exact hg, .inl ⟨rfl, rfl⟩⟩
  · exact ⟨k, 90, he, by have := (List.getElem?_eq_some_iff.1 hx).1; omega, hg, .inr ⟨x, hx, hn, rfl⟩⟩

theorem in_news {w : World} {b o : Nat} {l : List Inf} (hc : InAt w b o l) : ∀ j u, (flat l)[j]? = some u → w.cell? ((⟨b, o, none⟩ : Addr).add j) = some u := by
  intro j u hj
  have hl : j < l.length * 3 := by have := (List.getElem?_eq_some_iff.1 hj).1; rwa [flat_length] at this
  have hk : j / 3 < l.length := by omega
  have hx : l[j / 3]? = some l[j / 3] := List.getElem?_eq_getElem hk
  obtain ⟨f0, f1, f2⟩ := flat_get l (j / 3) _ hx
  obtain ⟨c0, c1, c2⟩ := hc _ _ hx
  rw [addr_add]
  rcases (by omega : j % 3 = 0 ∨ j % 3 = 1 ∨ j % 3 = 2) with hm | hm | hm
  · rw [show j / 3 * 3 = j by omega] at f0 c0
    rw [f0] at hj
    rw [c0]; exact hj
  · rw [show j / 3 * 3 + 1 = j by omega] at f1
    rw [show o + j / 3 * 3 + 1 = o + j by omega] at c1
    rw [f1] at hj
    rw [c1]; exact hj
  · rw [show j / 3 * 3 + 2 = j by omega] at f2
    rw [show o + j / 3 * 3 + 2 = o + j by omega] at c2
    rw [f2] at hj
    rw [c2]; exact hj

set_option maxRecDepth 100000 in
set_option maxHeartbeats 2000000 in
theorem checks_long (v : Value) (l : List Inf) (w : World) (h : IsAt w (fun _ => True) v l) (hl : 500 < l.length) (hl2 : l.length ≤ 9223372036854775807) :
    Calls Try.prog 4 #[v] w fun e w' => e = .returned (.bool true) ∧ Below w.heap.size w w' := by
  obtain ⟨a, c, rfl, hlc, _⟩ := h
  have hd : decide ((500 : Int) < (l.length : Int)) = true := decide_eq_true (by omega)
  go_enter Try.func4, Try.ntmps4
  go_wp2_with (go_at_call 8; refine (awake_any _).mono ?_; rintro e wc ⟨rfl, hbc⟩)
  go_ret
  exact ⟨rfl, hbc⟩

set_option maxRecDepth 100000 in
set_option maxHeartbeats 4000000 in
theorem checks_short (v : Value) (l : List Inf) (w : World) (h : IsAt w (fun _ => True) v l) (hp : Prp v) (hl : l.length ≤ 500) :
    Calls Try.prog 4 #[v] w fun e w' => e = .returned (.bool true) ∧ Below w.heap.size w w' := by
  obtain ⟨i0, hi, hq0, hq1, hq2⟩ := info_parts Try.infoI
  obtain ⟨i1, hi1, hr0, hr1, hr2⟩ := info_parts Try.infoR
  obtain ⟨a, c, rfl, hlc, hA⟩ := h
  have HA := Lib.hid hA
  have HP := Lib.hid hp
  clear hA hp
  have hd : decide ((500 : Int) < (l.length : Int)) = false := decide_eq_false (by omega)
  go_enter Try.func4, Try.ntmps4
  go_upto_region 3 with (fail)
  go_cut [3, 4] (fun s3 s4 wx => ∃ (K : Nat) (code : Int), s3 = .int .i64 (K : Int) ∧ s4 = .int .i64 code ∧ Hid (ChkK l K code) ∧ Hid (Below w.heap.size w wx))
  case first =>
    cases a with
    | none =>
      have h0 := HP.out _ _ rfl
      injection h0 with _ h1 h2
      obtain rfl : l = [] := List.length_eq_zero_iff.1 h1
      subst h2
      go_wp2_with (go_at_call 14; refine (check_any (fun _ => True) _ [] _ ⟨_, _, rfl, Nat.zero_le _, fun h => absurd h (Nat.lt_irrefl _)⟩ (by simp)).mono ?_; rintro e w2 ⟨he, hb⟩; obtain ⟨K, code, rfl, hck⟩ := chkK_of he; have HCK := Lib.hid hck; have HB2 : Hid (Below w.heap.size w w2) := Lib.hid (((Below.refl _ w).alloc (Nat.le_refl _) _).trans (hb.mono (by simp))); clear he hb hck)
      go_meet
      exact ⟨K, code, rfl, rfl, HCK, HB2⟩
    | some ad =>
      have HNEWS : Hid (∀ j u, (flat l)[j]? = some u → (w.alloc (.cells #[] 31)).cell? (ad.add j) = some u) := Lib.hid (by
        intro j u hu
        have hl0 : 0 < l.length := by have := (List.getElem?_eq_some_iff.1 hu).1; rw [flat_length] at this; omega
        obtain ⟨b, o, hab, _, hb2, hcells⟩ := HA.out hl0
        injection hab with hab
        subst hab
        exact cell_alloc_some (in_news hcells j u hu))
      go_wp2_with (first
        | (at_builtin; refine wpList_append_own _ rfl _ _ 39 rfl w.heap.size 31 i0 (.agg #[.int .i64 0, .int .i64 0, .bool false]) 3 24 Try.underlying39 hi hq0 hq1 hq2 rfl (by decide) _ 0 [] rfl (World.ownsRow_made w #[] 0 (Nat.le_refl _) (Nat.zero_le _) rfl) ad l.length c (flat l) rfl (flat_length l) HNEWS.out (flat_one l) (by unfold maxLen; omega) (by omega) (by simp <;> omega) ?_; intro v' w7 hown7 hg7 _; rw [Nat.zero_add, List.nil_append] at hown7; have HC7 := Lib.hid (check_any _ _ l w7 (IsAt.own hown7) (by omega)); have HB7 : Hid (Below w.heap.size w w7) := Lib.hid (((Below.refl _ w).alloc (Nat.le_refl _) _).grown hg7 (by simp) fun k hk => Nat.le_of_eq (Option.some.inj hk)); clear hown7 hg7)
        | (go_at_call 14; (with_reducible refine HC7.out.mono ?_); rintro e w2 ⟨he, hb⟩; obtain ⟨K, code, rfl, hck⟩ := chkK_of he; have HCK := Lib.hid hck; have HB2 : Hid (Below w.heap.size w w2) := Lib.hid (HB7.out.trans (hb.mono HB7.out.size)); clear he hb hck))
      go_meet
      exact ⟨K, code, rfl, rfl, HCK, HB2⟩
  obtain ⟨K, code, rfl, rfl, HCK, HB1⟩ := hcut
  obtain ⟨w1, hw1⟩ : ∃ w1 : World, w1 = wc := ⟨_, rfl⟩
  subst hw1
  have hs1 := HB1.out.size
  have hKl := HCK.out.1
  go_wp2
  go_loopw [5, 21] (fun dv iv wr => ∃ (j : Nat), iv = .int .i64 (j : Int) ∧ j ≤ K ∧ Hid (wr.ownsRow w1.heap.size 30 3 dv j (flat (l.take j))) ∧ Hid (Below w1.heap.size w1 wr)) (fun _ iv _ => l.length - (intOf iv).toNat)
  case atStart => exact ⟨0, rfl, Nat.zero_le _, Lib.hid (by rw [List.take_zero]; exact World.ownsRow_nil _ _ _ _), Lib.hid (Below.refl _ _)⟩
  case round =>
    obtain ⟨j, rfl, hj, HO, HB⟩ := hrel
    have hsr := HB.out.size
    have HBW : Hid (Below w.heap.size w wr) := Lib.hid (HB1.out.trans (HB.out.mono hs1))
    have hswr := HBW.out.size
    obtain ⟨Av, cv, rfl⟩ := own_slice HO.out
    have hlen : (l.take j).length = j := by rw [List.length_take, Nat.min_eq_left (by omega)]
    have HLEN := Lib.hid hlen
    have HIA : Hid (IsAt wr (fun b => w1.heap.size ≤ b) (.slice Av j cv) (l.take j)) := Lib.hid (IsAt.own (by rw [hlen]; exact HO.out))
    clear hlen
    by_cases hlt : j < l.length
    · obtain ⟨b, o, rfl, _, hb2, hcells⟩ := HA.out (by omega)
      have hx := List.getElem?_eq_getElem hlt
      obtain ⟨c0, c1, c2⟩ := hcells j _ hx
      have HX := Lib.hid hx
      have HFOL : Hid (j < K → Fol (l.take j) l[j]) := Lib.hid fun hjk => by
        have h1 : (l.take K)[j]? = some l[j] := by rw [List.getElem?_take_of_lt hjk]; exact hx
        have := (gd_at HCK.out.2.1 j _ h1).2
        rwa [List.take_take, Nat.min_eq_left (by omega)] at this
      have HGJ : Hid (GdL (l.take j)) := Lib.hid (by
        rcases Nat.lt_or_ge j K with h | h
        · have h1 : (l.take K)[j]? = some l[j] := by rw [List.getElem?_take_of_lt h]; exact hx
          have := (gd_at HCK.out.2.1 j _ h1).1
          rwa [List.take_take, Nat.min_eq_left (by omega)] at this
        · obtain rfl : j = K := by omega
          exact HCK.out.2.1)
      have HTK : Hid (flat (l.take (j + 1)) = flat (l.take j) ++ [.int .i64 (l[j]).1, .int .i64 (l[j]).2.1, .bool (l[j]).2.2]) := Lib.hid (by rw [take_snoc hx, flat_snoc])
      generalize l[j] = x at *
      obtain ⟨x1, x2, x3⟩ := x
      dsimp only at c0 c1 c2 HTK
      have c0 := (HBW.out.cell (p := ⟨b, o + j * 3, none⟩) hb2).trans c0
      have c1 := (HBW.out.cell (p := ⟨b, o + j * 3 + 1, none⟩) hb2).trans c1
      have c2 := (HBW.out.cell (p := ⟨b, o + j * 3 + 2, none⟩) hb2).trans c2
      have hbr : b < wr.heap.size := by omega
      have hj0' : (0 : Int) ≤ (j : Int) := by omega
      have hj1' : (j : Int) < (l.length : Int) := by omega
      clear hx hcells
      go_upto_region 8 with (fail)
      have hX7 : (wr.alloc (.cells #[.int .i64 x1, .int .i64 x2, .bool x3] 31)).heap[wr.heap.size]? = some (.cells #[.int .i64 x1, .int .i64 x2, .bool x3] 31 (0, 0)) := heap_alloc_new wr _
      have hIA2 : IsAt (wr.alloc (.cells #[.int .i64 x1, .int .i64 x2, .bool x3] 31)) (fun b => w1.heap.size ≤ b) (.slice Av j cv) (l.take j) := HIA.out.below ((Below.refl _ wr).alloc (Nat.le_refl _) _)
      have hOW := HO.out.alloc (.cells #[.int .i64 x1, .int .i64 x2, .bool x3] 31)
      have hBW1 : Below w1.heap.size w1 (wr.alloc (.cells #[.int .i64 x1, .int .i64 x2, .bool x3] 31)) := HB.out.alloc hsr _
      generalize wr.alloc (.cells #[.int .i64 x1, .int .i64 x2, .bool x3] 31) = W at hX7 hIA2 hOW hBW1 ⊢
      have y0 := cell3_0 hX7
      have y1 := cell3_1 hX7
      have y2 := cell3_2 hX7
      have hyl := cell_lt hX7
      have HX7 := Lib.hid hX7
      have HOW := Lib.hid hOW
      have HBW1 := Lib.hid hBW1
      have HIA2 := Lib.hid hIA2
      have hsW := hBW1.size
      clear hX7 hIA2 hOW hBW1 c0 c1 c2
      by_cases hjk : j < K
      · have HFR : Hid (FolR (l.take j) (x1, x2, x3)) := Lib.hid ((fol_iff HGJ.out _).2 (HFOL.out hjk))
        have HC := Lib.hid (follows_yes _ _ (l.take j) x1 x2 x3 W HIA2.out (by rw [HLEN.out]; omega) HFR.out)
        go_wp2_with (first
          | (go_at_call 10; (with_reducible refine HC.out.mono ?_); rintro e w3 ⟨rfl, hb3⟩; have hX := (hb3.block _ hyl).trans HX7.out; have z0 := cell3_0 hX; have z1 := cell3_1 hX; have z2 := cell3_2 hX; have hz3 := cell_lt hX; have HO3 := Lib.hid (own_low HOW.out hb3); have HB3 : Hid (Below w1.heap.size w1 w3) := Lib.hid (HBW1.out.trans (hb3.mono hsW)); have hs3 := HB3.out.size; clear hX hb3)
          | (at_builtin; refine wpList_append_own _ rfl _ _ 26 rfl w1.heap.size 30 i1 (.agg #[.int .i64 0, .int .i64 0, .bool false]) 3 24 Try.underlying26 hi1 hr0 hr1 hr2 rfl (by decide) _ _ (flat (l.take j)) rfl (HO3.out.alloc _) ⟨w3.heap.size, 0, none⟩ 1 1 [.int .i64 x1, .int .i64 x2, .bool x3] rfl rfl (list_one_new _ _ _ _ _ _ rfl) (three_one _ _ _) (by unfold maxLen; omega) (by omega) (by simp <;> omega) ?_; intro v' w7 hown7 hg7 _))
        have HO7 := Lib.hid hown7
        have HB7 : Hid (Below w1.heap.size w1 w7) := Lib.hid ((HB3.out.alloc hs3 _).grown hg7 (by simp; omega) fun k hk => (HO3.out.lt k hk).1)
        clear hown7 hg7
        go_roundw
        case rel => exact ⟨j + 1, by go_num, by omega, Lib.hid (by rw [HTK.out]; exact HO7.out), HB7⟩
        case measure => simp [intOf]; omega
      · have hjK : j = K := by omega
        have hbad : ¬ Fol (l.take j) (x1, x2, x3) ∧ code = 90 := by
          rcases HCK.out.2.2 with ⟨h1, _⟩ | ⟨x, hx, hn, hc⟩
          · omega
          · rw [← hjK] at hx hn
            have := HX.out.symm.trans hx
            injection this with this
            subst this
            exact ⟨hn, hc⟩
        obtain ⟨hnf, rfl⟩ := hbad
        have HNF := Lib.hid hnf
        clear hnf
        subst hjK
        have HFR : Hid (¬ FolR (l.take j) (x1, x2, x3)) := Lib.hid (fun h => HNF.out ((fol_iff HGJ.out _).1 h))
        have HC := Lib.hid (follows_no _ _ (l.take j) x1 x2 x3 W HIA2.out (by rw [HLEN.out]; omega) HFR.out)
        go_wp2_with (first
          | (go_at_call 10; (with_reducible refine HC.out.mono ?_); rintro e w3 ⟨rfl, hb3⟩; have HB3 : Hid (Below w1.heap.size w1 w3) := Lib.hid (HBW1.out.trans (hb3.mono hsW)); clear hb3)
          | (go_at_call 8; refine (awake_any _).mono ?_; rintro e wc ⟨rfl, hbc⟩))
        go_ret
        exact ⟨rfl, HB1.out.trans ((HB3.out.trans (hbc.mono HB3.out.size)).mono hs1)⟩
    · obtain rfl : j = l.length := by omega
      obtain rfl : K = l.length := by omega
      obtain rfl : code = 0 := by
        rcases HCK.out.2.2 with ⟨_, h⟩ | ⟨x, hx, _⟩
        · exact h
        · have := (List.getElem?_eq_some_iff.1 hx).1; omega
      go_wp2_with (go_at_call 8; refine (awake_any _).mono ?_; rintro e wc ⟨rfl, hbc⟩)
      go_ret
      exact ⟨rfl, HBW.out.trans (hbc.mono hswr)⟩

end Go.Proofs.Ytkgomnegeacceaa
