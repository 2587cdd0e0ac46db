/-
Sort of the program: the walk.
-/
import Derived.Test.YtpkieiahhkgjoaaDoorSn
import Derived.Laws.AppendOwnNone
set_option linter.unusedVariables false
namespace Go.Proofs.YtpkieiahhkgjoaaDoor
open Go.RowKit

/-- A nil slice is the nil slice. -/
def Prp (v : Value) : Prop := ∀ n c, v = .slice none n c → v = .slice none 0 0

theorem addr_add (b o k : Nat) : (⟨b, o, none⟩ : Addr).add k = ⟨b, o + k, none⟩ := by
  unfold Addr.add
  split
  · rename_i h; subst h; rfl
  · rfl

theorem ws_news {w : World} {b o : Nat} {l : List Wn} (hc : ∀ j x, l[j]? = some x → w.cell? ⟨b, o + j * 2, none⟩ = some (.int .i64 x.1) ∧ w.cell? ⟨b, o + j * 2 + 1, none⟩ = some (.int .i64 x.2)) :
    ∀ j u, (flat l)[j]? = some u → w.cell? ((⟨b, o, none⟩ : Addr).add j) = some u := by
  intro j u hj
  have hl : j < l.length * 2 := by have := (List.getElem?_eq_some_iff.1 hj).1; rwa [flat_length] at this
  have hk : j / 2 < l.length := by omega
  have hx : l[j / 2]? = some l[j / 2] := List.getElem?_eq_getElem hk
  obtain ⟨f0, f1⟩ := flat_get l (j / 2) _ hx
  obtain ⟨c0, c1⟩ := hc _ _ hx
  rw [addr_add]
  rcases Nat.mod_two_eq_zero_or_one j with hm | hm
  · rw [show j / 2 * 2 = j by omega] at f0 c0
    rw [f0] at hj
    rw [c0]; exact hj
  · rw [show j / 2 * 2 + 1 = j by omega] at f1
    rw [show o + j / 2 * 2 + 1 = o + j by omega] at c1
    rw [f1] at hj
    rw [c1]; exact hj

theorem flat_one (l : List Wn) : ∀ u ∈ flat l, u.oneCell' = true := by
  intro u hu
  unfold flat at hu
  rw [List.mem_flatMap] at hu
  obtain ⟨x, _, hx⟩ := hu
  exact two_one x.1 x.2 u hx

set_option maxRecDepth 100000 in
set_option maxHeartbeats 2000000 in
theorem sort_bad (B : Nat) (v : Value) (l : List Wn) (w : World) (h : WsAt w B v l) (hl : l.length ≤ 2000000) (hb : ∃ x ∈ l, ¬ GdW x) :
    Calls Tryd.prog 12 #[v] w fun e w' => e = .returned (.tuple #[.slice none 0 0, .int .i64 70]) ∧ Below w.heap.size w w' := by
  obtain ⟨a, c, rfl, hlc, hA⟩ := h
  have HA := Lib.hid hA
  have HBD := Lib.hid hb
  clear hA hb
  go_enter Tryd.func12, Tryd.ntmps12
  go_wp2
  go_loopw [10] (fun iv wr => ∃ j : Nat, iv = .int .i64 (j : Int) ∧ j ≤ l.length ∧ Hid (∀ x ∈ l.take j, GdW x) ∧ Hid (Below w.heap.size w wr)) (fun iv _ => l.length - (intOf iv).toNat)
  case atStart => exact ⟨0, rfl, Nat.zero_le _, Lib.hid (by simp), Lib.hid (Below.refl _ _)⟩
  case round =>
    obtain ⟨j, rfl, hj, HG, HB⟩ := hrel
    have hsr := HB.out.size
    by_cases hlt : j < l.length
    · obtain ⟨b, o, rfl, hb1, hb2, hcells⟩ := HA.out (by omega)
      obtain ⟨c0, c1⟩ := ws_cells hcells hlt
      have HT : Hid (l.take (j + 1) = l.take j ++ [l[j]]) := Lib.hid (by rw [List.take_succ_eq_append_getElem hlt])
      have c0 := (HB.out.cell (p := ⟨b, o + j * 2, none⟩) hb2).trans c0
      have c1 := (HB.out.cell (p := ⟨b, o + j * 2 + 1, none⟩) hb2).trans c1
      clear hcells
      generalize l[j] = x at *
      obtain ⟨x1, x2⟩ := x
      dsimp only at c0 c1
      by_cases hg : Gd x1 x2
      · have HGX := Lib.hid hg
        clear hg
        go_wp2_with (go_at_call 15; refine (wcheck_yes x1 x2 _ HGX.out).mono ?_; rintro e w2 ⟨rfl, hb2⟩)
        go_roundw
        case rel =>
          refine ⟨j + 1, by go_num, by omega, Lib.hid ?_, Lib.hid ((HB.out.alloc HB.out.size _).trans (hb2.mono (by simp; omega)))⟩
          rw [HT.out]
          intro y hy
          rcases List.mem_append.1 hy with h1 | h1
          · exact HG.out y h1
          · rw [List.mem_singleton] at h1; subst h1; exact HGX.out
        case measure => simp [intOf]; omega
      · have HGX := Lib.hid hg
        clear hg
        go_wp2_with (go_at_call 15; refine (wcheck_no x1 x2 _ HGX.out).mono ?_; rintro e w2 ⟨rfl, hb2⟩)
        go_ret2
        exact ⟨rfl, (HB.out.alloc HB.out.size _).trans (hb2.mono (by simp; omega))⟩
    · exfalso
      obtain ⟨x, hx, hn⟩ := HBD.out
      exact hn (HG.out x (by rw [List.take_of_length_le (by omega)]; exact hx))

set_option maxRecDepth 100000 in
set_option maxHeartbeats 2000000 in
theorem sort_ok (B : Nat) (v : Value) (l : List Wn) (w : World) (h : WsAt w B v l) (hp : Prp v) (hl : l.length ≤ 2000000) (hg : ∀ x ∈ l, GdW x) :
    Calls Tryd.prog 12 #[v] w fun e w' => (∃ a c, e = .returned (.tuple #[.slice a l.length c, .int .i64 0]) ∧ WsAt w' w.heap.size (.slice a l.length c) (srt l)) ∧ Below w.heap.size w w' := by
  obtain ⟨i0, hi, hq0, hq1, hq2⟩ := info_parts Tryd.infoW
  obtain ⟨a, c, rfl, hlc, hA⟩ := h
  have HA := Lib.hid hA
  have HGD := Lib.hid hg
  have HP := Lib.hid hp
  clear hA hg hp
  go_enter Tryd.func12, Tryd.ntmps12
  go_wp2
  go_loopw [10] (fun iv wr => ∃ j : Nat, iv = .int .i64 (j : Int) ∧ j ≤ l.length ∧ Hid (Below w.heap.size w wr)) (fun iv _ => l.length - (intOf iv).toNat)
  case atStart => exact ⟨0, rfl, Nat.zero_le _, Lib.hid (Below.refl _ _)⟩
  case round =>
    obtain ⟨j, rfl, hj, HB⟩ := hrel
    have hsr := HB.out.size
    by_cases hlt : j < l.length
    · obtain ⟨b, o, rfl, hb1, hb2, hcells⟩ := HA.out (by omega)
      obtain ⟨c0, c1⟩ := ws_cells hcells hlt
      have HGX : Hid (GdW l[j]) := Lib.hid (HGD.out _ (List.getElem_mem hlt))
      have c0 := (HB.out.cell (p := ⟨b, o + j * 2, none⟩) hb2).trans c0
      have c1 := (HB.out.cell (p := ⟨b, o + j * 2 + 1, none⟩) hb2).trans c1
      clear hcells
      generalize l[j] = x at *
      obtain ⟨x1, x2⟩ := x
      dsimp only at c0 c1
      go_wp2_with (go_at_call 15; refine (wcheck_yes x1 x2 _ HGX.out).mono ?_; rintro e w2 ⟨rfl, hb2⟩)
      go_roundw
      case rel => exact ⟨j + 1, by go_num, by omega, Lib.hid ((HB.out.alloc HB.out.size _).trans (hb2.mono (by simp; omega)))⟩
      case measure => simp [intOf]; omega
    · obtain rfl : j = l.length := by omega
      cases a with
      | none =>
        have h0 := HP.out _ _ rfl
        injection h0 with _ h1 h2
        obtain rfl : l = [] := List.length_eq_zero_iff.1 h1
        subst h2
        go_wp2_with (go_at_call 16; refine (sortFunc_nil _).mono ?_; rintro e w2 ⟨rfl, rfl⟩)
        go_ret2
        exact ⟨⟨none, 0, rfl, by unfold srt; rw [List.mergeSort_nil]; exact WsAt.nil _ _⟩, HB.out⟩
      | some ad =>
        have HNEWS : Hid (∀ j u, (flat l)[j]? = some u → wr.cell? (ad.add j) = some u) := Lib.hid (by
          intro j u hu
          have hl0 : 0 < l.length := by have := (List.getElem?_eq_some_iff.1 hu).1; rw [flat_length] at this; omega
          obtain ⟨b, o, hab, hb1, hb2, hcells⟩ := HA.out hl0
          injection hab with hab
          subst hab
          refine ws_news (l := l) (fun j x hx => ?_) j u hu
          obtain ⟨c0, c1⟩ := hcells j x hx
          exact ⟨(HB.out.cell (p := ⟨b, o + j * 2, none⟩) hb2).trans c0, (HB.out.cell (p := ⟨b, o + j * 2 + 1, none⟩) hb2).trans c1⟩)
        go_wp2_with (at_builtin; refine wpList_append_own _ rfl _ _ 28 rfl w.heap.size 33 i0 (.agg #[.int .i64 0, .int .i64 0]) 2 16 Tryd.underlying28 hi hq0 hq1 hq2 rfl (by decide) _ 0 [] rfl (World.ownsRow_nil _ _ _ _) ad l.length c (flat l) rfl (flat_length l) HNEWS.out (flat_one l) (by unfold maxLen; omega) (by omega) (by omega) ?_; intro v' w7 hown7 hg7 hiff)
        rw [Nat.zero_add, List.nil_append] at hown7
        have HB7 : Below w.heap.size w w7 := HB.out.grown hg7 (by omega) fun k hk => by cases hk
        by_cases hl0 : l.length = 0
        · obtain rfl : l = [] := List.length_eq_zero_iff.1 hl0
          obtain rfl : v' = .slice none 0 0 := hiff.2 ⟨rfl, rfl⟩
          clear hown7 hg7 hiff
          go_wp2_with (go_at_call 16; refine (sortFunc_nil _).mono ?_; rintro e w2 ⟨rfl, rfl⟩)
          go_ret2
          exact ⟨⟨none, 0, rfl, by unfold srt; rw [List.mergeSort_nil]; exact WsAt.nil _ _⟩, HB7⟩
        · obtain ⟨g, cap, rfl, _⟩ := own_form hown7 (by omega)
          have HS := Lib.hid (sortFunc_any g cap w.heap.size l w7 hown7 hl)
          clear hown7 hg7 hiff
          go_wp2_with (go_at_call 16; refine HS.out.mono ?_; rintro e w2 ⟨rfl, hws, hb2⟩)
          go_ret2
          exact ⟨⟨_, cap, rfl, hws⟩, HB7.trans hb2⟩

end Go.Proofs.YtpkieiahhkgjoaaDoor
