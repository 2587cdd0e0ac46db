/-
The document's answer for package expr: digits.
-/
import Derived.Test.YtadbnlnifacblaaGreatDoorRc1
import Derived.Test.YtadbnlnifacblaaGreatDoorWq
import Derived.Deep.RegionWith
import Derived.Lib.ItoaNum
import Derived.Test.YtadbnlnifacblaaGreatDoorStp
import Derived.Test.YtadbnlnifacblaaGreatDoorSzp
namespace Go.Proofs.YtadbnlnifacblaaGreatDoor
open Go.RowKit
theorem one_byte {W : World} {B : Nat} {b : UInt8} (h : W.heap[B]? = some (.cells #[.int .u8 (b.toNat : Int)] 5 (0, 0))) :
    (convert 99 9 (.slice (some ⟨B, 0, none⟩) 1 1)).run Tryz.prog W = .ok (.string ⟨#[b]⟩) W :=
  run_convert_bytes_back W 99 9 5 ⟨B, 0, none⟩ 1 [b] Tryz.underlying99 Tryz.underlying5 Tryz.underlying9 (Lib.bytes_of_row h rfl)
theorem one_byte_n {W : World} {B k : Nat} (hk : k < 256) (h : W.heap[B]? = some (.cells #[.int .u8 (k : Int)] 5 (0, 0))) :
    (convert 99 9 (.slice (some ⟨B, 0, none⟩) 1 1)).run Tryz.prog W = .ok (.string ⟨#[UInt8.ofNat k]⟩) W := by
  refine one_byte ?_
  rw [h, UInt8.toNat_ofNat', Nat.mod_eq_of_lt hk]
theorem itoa_neg1 {n : Int} {k : Nat} (h0 : n < 0) (h1 : -10 < n) (hk : 48 - n = (k : Int)) : Lib.itoa n = [45, UInt8.ofNat k] := by
  unfold Lib.itoa
  rw [if_pos h0, Lib.decDigits, dif_pos (by omega), show 48 + n.natAbs = k by omega]
theorem itoa_pos1 {n : Int} {k : Nat} (h0 : 0 ≤ n) (h1 : n < 10) (hk : 48 + n = (k : Int)) : Lib.itoa n = [UInt8.ofNat k] := by
  unfold Lib.itoa
  rw [if_neg (by omega), Lib.decDigits, dif_pos (by omega), show 48 + n.toNat = k by omega]
theorem itoa_more {n : Int} {k : Nat} (h : ¬ (-10 < n ∧ n < 10)) (hk : 48 + (if n.tmod 10 < 0 then -(n.tmod 10) else n.tmod 10) = (k : Int)) : Lib.itoa n = Lib.itoa (n.tdiv 10) ++ [UInt8.ofNat k] := by
  have e := Int.tmod_add_mul_tdiv n 10
  by_cases h0 : n < 0
  · obtain ⟨hr, hr3⟩ : n.tmod 10 ≤ 0 ∧ -10 < n.tmod 10 := by
      have h5 : (-n).tmod 10 < 10 := Int.tmod_lt_of_pos _ (by omega)
      have h6 : 0 ≤ (-n).tmod 10 := Int.tmod_nonneg _ (by omega)
      rw [Int.neg_tmod] at h5 h6
      omega
    have ha : n.natAbs / 10 = (n.tdiv 10).natAbs := by omega
    have hb : 48 + n.natAbs % 10 = k := by
      split at hk <;> omega
    have hq : n.tdiv 10 < 0 := by omega
    unfold Lib.itoa
    rw [if_pos h0, if_pos hq, Lib.decDigits, dif_neg (by omega), ha, hb]
    rfl
  · have hr : 0 ≤ n.tmod 10 := Int.tmod_nonneg _ (by omega)
    have hr2 := Int.tmod_lt_of_pos n (b := 10) (by omega)
    have ha : n.toNat / 10 = (n.tdiv 10).toNat := by omega
    have hb : 48 + n.toNat % 10 = k := by
      rw [if_neg (by omega)] at hk
      omega
    have hq : ¬ n.tdiv 10 < 0 := by omega
    unfold Lib.itoa
    rw [if_neg h0, if_neg hq, Lib.decDigits, dif_neg (by omega), ha, hb]
theorem str2 (a : List UInt8) (b : UInt8) : (⟨a.toArray⟩ : ByteArray) ++ (⟨#[b]⟩ : ByteArray) = ⟨(a ++ [b]).toArray⟩ := by
  apply ByteArray.ext
  apply Array.ext'
  simp
set_option maxRecDepth 100000 in
set_option maxHeartbeats 2000000 in
theorem digits_d : ∀ (f : Nat) (n : Int) (w : World), -9223372036854775808 ≤ n → n ≤ 9223372036854775807 → n.natAbs < 10 ^ f →
    Calls Tryz.prog 57 #[.int .i64 n] w fun e w' => e = .returned (.string ⟨(Lib.itoa n).toArray⟩) ∧ Below w.heap.size w w' := by
  intro f
  induction f with
  | zero =>
    intro n w hlo hhi hf
    have h0 : n = 0 := by
      have : n.natAbs < 1 := by simpa using hf
      omega
    subst h0
    have hcv : (convert 99 9 (.slice (some ⟨w.heap.size, 0, none⟩) 1 1)).run Tryz.prog (w.alloc (.cells #[.int .u8 48] 5)) = .ok (.string ⟨#[48]⟩) (w.alloc (.cells #[.int .u8 48] 5)) := one_byte_n (k := 48) (by decide) (heap_alloc_new w _)
    go_enter Tryz.func57, Tryz.ntmps57
    go_wp2_with (fail)
    go_ret
    exact ⟨by rw [itoa_pos1 (n := 0) (k := 48) (by decide) (by decide) rfl]; rfl, (Below.refl w.heap.size w).alloc (Nat.le_refl _) _⟩
  | succ f ih =>
    intro n w hlo hhi hf
    by_cases hs : -10 < n ∧ n < 10
    · obtain ⟨h1, h2⟩ := hs
      have g2 : decide (n < 10) = true := by simp; omega
      by_cases h0 : n < 0
      · obtain ⟨k, hk⟩ : ∃ k : Nat, 48 - n = (k : Int) := ⟨(48 - n).toNat, by omega⟩
        have hk2 : k < 256 := by omega
        have hcv := one_byte_n (W := w.alloc (.cells #[.int .u8 (k : Int)] 5)) hk2 (heap_alloc_new w _)
        have HE : Hid (Lib.itoa n = [45, UInt8.ofNat k]) := itoa_neg1 h0 h1 hk
        go_enter Tryz.func57, Tryz.ntmps57
        go_wp2_with (fail)
        go_ret
        rw [HE.out]
        exact ⟨rfl, (Below.refl w.heap.size w).alloc (Nat.le_refl _) _⟩
      · obtain ⟨k, hk⟩ : ∃ k : Nat, 48 + n = (k : Int) := ⟨(48 + n).toNat, by omega⟩
        have hk2 : k < 256 := by omega
        have hcv := one_byte_n (W := w.alloc (.cells #[.int .u8 (k : Int)] 5)) hk2 (heap_alloc_new w _)
        have HE : Hid (Lib.itoa n = [UInt8.ofNat k]) := itoa_pos1 (by omega) h2 hk
        go_enter Tryz.func57, Tryz.ntmps57
        go_wp2_with (fail)
        go_ret
        rw [HE.out]
        exact ⟨rfl, (Below.refl w.heap.size w).alloc (Nat.le_refl _) _⟩
    · obtain ⟨k, hk⟩ : ∃ k : Nat, 48 + (if n.tmod 10 < 0 then -(n.tmod 10) else n.tmod 10) = (k : Int) := ⟨(48 + (if n.tmod 10 < 0 then -(n.tmod 10) else n.tmod 10)).toNat, by split <;> omega⟩
      have e := Int.tmod_add_mul_tdiv n 10
      have h5 : (-n).tmod 10 < 10 := Int.tmod_lt_of_pos _ (by omega)
      have h6 : n.tmod 10 < 10 := Int.tmod_lt_of_pos _ (by omega)
      rw [Int.neg_tmod] at h5
      have hk2 : k < 256 := by split at hk <;> omega
      have HE : Hid (Lib.itoa n = Lib.itoa (n.tdiv 10) ++ [UInt8.ofNat k]) := itoa_more hs hk
      have HI : Hid (∀ W, Calls Tryz.prog 57 #[.int .i64 (n.tdiv 10)] W fun e w' => e = .returned (.string ⟨(Lib.itoa (n.tdiv 10)).toArray⟩) ∧ Below W.heap.size W w') := fun W => ih _ W (by omega) (by omega) (by have h7 := Int.natAbs_tdiv n 10; rw [Nat.pow_succ] at hf; have h8 : (n.tdiv 10).natAbs = n.natAbs / 10 := h7; omega)
      have hsm : (decide (-10 < n) = true ∧ decide (n < 10) = false) ∨ decide (-10 < n) = false := by
        by_cases h : -10 < n
        · exact .inl ⟨by simp; omega, by simp; omega⟩
        · exact .inr (by simp; omega)
      obtain ⟨q, hq⟩ : ∃ q, q = n.tdiv 10 := ⟨_, rfl⟩
      obtain ⟨m, hm⟩ : ∃ m, m = n.tmod 10 := ⟨_, rfl⟩
      have HQ := Lib.hid hq
      have HM := Lib.hid hm
      have hqn := hq.symm
      have hmn := hm.symm
      rw [← hm] at hk h5 h6 e
      rw [← hq] at HE HI e
      clear hq hm e
      obtain ⟨hq0, hq1⟩ : -9223372036854775808 ≤ q ∧ q ≤ 9223372036854775807 := by
        have := HQ.out
        have h8 := Int.natAbs_tdiv n 10
        have h9 : (n.tdiv 10).natAbs = n.natAbs / 10 := h8
        omega
      have hlen := itoa_le q hq0 hq1
      obtain ⟨s, hs0⟩ : ∃ s : ByteArray, s = ⟨(Lib.itoa q).toArray⟩ := ⟨_, rfl⟩
      have hsz : s.size ≤ 21 := by rw [hs0]; simpa [ByteArray.size] using hlen
      have HS := Lib.hid hs0
      rw [← hs0] at HI
      clear hs0 hlen
      have hsm2 : ¬ 9223372036854775807 < s.size + 1 := by omega
      have w1 : IntKind.i64.wrap q = q := IntWalk.i64_in _ (by omega)
      have w2 : IntKind.i64.wrap (k : Int) = (k : Int) := IntWalk.i64_in _ (by omega)
      have w3 : IntKind.u8.wrap (k : Int) = (k : Int) := IntWalk.u8_in _ (by split at hk <;> omega)
      have hcv1 := one_byte_n (W := (w.alloc (.cells #[.int .u8 (k : Int)] 5)).drew) hk2 (heap_alloc_new w _)
      have hlt1 : w.heap.size < ((w.alloc (.cells #[.int .u8 (k : Int)] 5)).drew).heap.size := by simp
      clear ih hf hs
      rcases hsm with ⟨g1, g2⟩ | g1
      · by_cases h0 : m < 0
        · rw [if_pos h0] at hk
          go_enter Tryz.func57, Tryz.ntmps57
          go_wp2_with (fail)
          go_region_with (go_at_call 57; refine (HI.out _).mono ?_; rintro e w5 ⟨rfl, hb5⟩; first | (have hcv := one_byte_n (W := w5) hk2 ((hb5.block _ hlt1).trans (heap_alloc_new w _))) | (have hcv := one_byte_n (W := w5.alloc (.cells #[.int .u8 (k : Int)] 5)) hk2 (heap_alloc_new w5 _)))
          all_goals (go_wp2_with (fail))
          all_goals refine bodyPost_ret (v := .string (s ++ (⟨#[UInt8.ofNat k]⟩ : ByteArray))) (by simp [results, Tryz.results57, go_sem]) rfl ?_
          all_goals refine ⟨by rw [HE.out, HS.out, str2], ?_⟩
          all_goals first
            | exact (((Below.refl w.heap.size w).drew).trans hb5).alloc (((Below.refl w.heap.size w).drew).trans hb5).size _
            | exact (((Below.refl w.heap.size w).alloc (Nat.le_refl _) _).drew).trans (hb5.mono (Nat.le_of_lt hlt1))
        · rw [if_neg h0] at hk
          go_enter Tryz.func57, Tryz.ntmps57
          go_wp2_with (fail)
          go_region_with (go_at_call 57; refine (HI.out _).mono ?_; rintro e w5 ⟨rfl, hb5⟩; first | (have hcv := one_byte_n (W := w5) hk2 ((hb5.block _ hlt1).trans (heap_alloc_new w _))) | (have hcv := one_byte_n (W := w5.alloc (.cells #[.int .u8 (k : Int)] 5)) hk2 (heap_alloc_new w5 _)))
          all_goals (go_wp2_with (fail))
          all_goals refine bodyPost_ret (v := .string (s ++ (⟨#[UInt8.ofNat k]⟩ : ByteArray))) (by simp [results, Tryz.results57, go_sem]) rfl ?_
          all_goals refine ⟨by rw [HE.out, HS.out, str2], ?_⟩
          all_goals first
            | exact (((Below.refl w.heap.size w).drew).trans hb5).alloc (((Below.refl w.heap.size w).drew).trans hb5).size _
            | exact (((Below.refl w.heap.size w).alloc (Nat.le_refl _) _).drew).trans (hb5.mono (Nat.le_of_lt hlt1))
      · by_cases h0 : m < 0
        · rw [if_pos h0] at hk
          go_enter Tryz.func57, Tryz.ntmps57
          go_wp2_with (fail)
          go_region_with (go_at_call 57; refine (HI.out _).mono ?_; rintro e w5 ⟨rfl, hb5⟩; first | (have hcv := one_byte_n (W := w5) hk2 ((hb5.block _ hlt1).trans (heap_alloc_new w _))) | (have hcv := one_byte_n (W := w5.alloc (.cells #[.int .u8 (k : Int)] 5)) hk2 (heap_alloc_new w5 _)))
          all_goals (go_wp2_with (fail))
          all_goals refine bodyPost_ret (v := .string (s ++ (⟨#[UInt8.ofNat k]⟩ : ByteArray))) (by simp [results, Tryz.results57, go_sem]) rfl ?_
          all_goals refine ⟨by rw [HE.out, HS.out, str2], ?_⟩
          all_goals first
            | exact (((Below.refl w.heap.size w).drew).trans hb5).alloc (((Below.refl w.heap.size w).drew).trans hb5).size _
            | exact (((Below.refl w.heap.size w).alloc (Nat.le_refl _) _).drew).trans (hb5.mono (Nat.le_of_lt hlt1))
        · rw [if_neg h0] at hk
          go_enter Tryz.func57, Tryz.ntmps57
          go_wp2_with (fail)
          go_region_with (go_at_call 57; refine (HI.out _).mono ?_; rintro e w5 ⟨rfl, hb5⟩; first | (have hcv := one_byte_n (W := w5) hk2 ((hb5.block _ hlt1).trans (heap_alloc_new w _))) | (have hcv := one_byte_n (W := w5.alloc (.cells #[.int .u8 (k : Int)] 5)) hk2 (heap_alloc_new w5 _)))
          all_goals (go_wp2_with (fail))
          all_goals refine bodyPost_ret (v := .string (s ++ (⟨#[UInt8.ofNat k]⟩ : ByteArray))) (by simp [results, Tryz.results57, go_sem]) rfl ?_
          all_goals refine ⟨by rw [HE.out, HS.out, str2], ?_⟩
          all_goals first
            | exact (((Below.refl w.heap.size w).drew).trans hb5).alloc (((Below.refl w.heap.size w).drew).trans hb5).size _
            | exact (((Below.refl w.heap.size w).alloc (Nat.le_refl _) _).drew).trans (hb5.mono (Nat.le_of_lt hlt1))
end Go.Proofs.YtadbnlnifacblaaGreatDoor
namespace Go.Proofs.YtadbnlnifacblaaGreatDoor
open Go.RowKit
def sideW : List UInt8 := [115, 105, 100, 101]
def nilW : List UInt8 := [110, 105, 108]
def noneW : List UInt8 := [110, 111, 110, 101]
def kidsD (f : Nd → List UInt8) : List Nd → UInt8 → List UInt8 → List UInt8 × Bool
  | [], _, s => (s, false)
  | k :: l, mark, s => if 10000 < ((s ++ [mark]) ++ f k).length then ((s ++ [mark]) ++ f k, true) else kidsD f l 44 ((s ++ [mark]) ++ f k)
def showD : Nat → Nd → List UInt8
  | 0, _ => []
  | r + 1, n => if n.op = intW then Lib.itoa n.int
    else if n.op = nameW then n.text
    else if n.op = sideW then sideW ++ [40] ++ Lib.itoa n.int ++ [41]
    else if n.op = nilW ∨ n.op = noneW then (if (Knd.measureT 6 n.ty).isSome then n.op ++ [40] ++ Knd.textT 6 n.ty ++ [41] else [63])
    else if n.op = textW then quoS n.text
    else if (kidsD (showD r) n.kids 40 n.op).2 = true ∨ n.kids = [] then (kidsD (showD r) n.kids 40 n.op).1 else (kidsD (showD r) n.kids 40 n.op).1 ++ [41]
theorem kidsD_of {f : Nd → StW → Option StW} {g : Nd → List UInt8} {F : Nat} (hF : F ≤ 9999) : ∀ (l : List Nd) (p : List UInt8) (mark : UInt8) (s s' : StW) (pre u : List UInt8),
    (∀ k ∈ l, ∀ s s', f k s = some s' → s'.1 = s.1 ++ g k ∧ s'.1.length ≤ F) → s.1 = pre ++ u → kidsW f l p mark s = some s' → (kidsD g l mark u).2 = false ∧ s'.1 = pre ++ (kidsD g l mark u).1 ++ [41]
  | [], _, mark, s, s', pre, u, _, hs, h => by
    rw [kidsW] at h
    injection h with h
    subst h
    exact ⟨rfl, by show s.1 ++ [41] = _; rw [hs]; rfl⟩
  | k :: l, [], mark, s, s', pre, u, _, _, h => by simp [kidsW] at h
  | k :: l, p :: ps, mark, s, s', pre, u, hf, hs, h => by
    rw [kidsW] at h
    split at h
    · cases h
    · split at h
      · cases h
      · rename_i s2 h2
        obtain ⟨e1, e2⟩ := hf k (List.mem_cons_self ..) _ _ h2
        have e3 : s2.1 = pre ++ ((u ++ [mark]) ++ g k) := by
          rw [e1]
          show s.1 ++ [mark] ++ g k = _
          rw [hs]
          simp
        have hlen : ¬ 10000 < ((u ++ [mark]) ++ g k).length := by
          have := congrArg List.length e3
          rw [List.length_append] at this
          omega
        rw [kidsD, if_neg hlen]
        exact kidsD_of hF l ps 44 s2 s' pre _ (fun k hk => hf k (List.mem_cons_of_mem _ hk)) e3 h
theorem wdN_d : (wdL.all fun x => decide (x.2 = [100] → x.1 = sideW) && decide (x.2 = [116] → x.1 = nilW ∨ x.1 = noneW)) = true := by decide +kernel
theorem wdP_mem {t p : List UInt8} {least : Nat} (h : wdP t = some (p, least)) (hn : t ≠ listW) : (t, p) ∈ wdL := by
  unfold wdP at h
  rw [if_neg hn] at h
  obtain ⟨x, hx, e⟩ := Option.map_eq_some_iff.1 h
  injection e with h1 h2
  have h3 := List.find?_some hx
  have h4 : x.1 = t := of_decide_eq_true h3
  have := List.mem_of_find?_eq_some hx
  obtain ⟨a, b⟩ := x
  simp only at h1 h4
  subst h1 h4
  exact this
theorem wdP_list : wdP listW = some (List.replicate 64 101, 1) := by unfold wdP; rw [if_pos rfl]
theorem wdp_side {t : List UInt8} {least : Nat} (h : wdP t = some ([100], least)) : t = sideW := by
  by_cases hn : t = listW
  · subst hn
    rw [wdP_list] at h
    injection h with h
    injection h with h _
    exact absurd h (by decide)
  · have := List.all_eq_true.1 wdN_d _ (wdP_mem h hn)
    rw [Bool.and_eq_true] at this
    exact of_decide_eq_true this.1 rfl
theorem wdp_nil {t : List UInt8} {least : Nat} (h : wdP t = some ([116], least)) : t = nilW ∨ t = noneW := by
  by_cases hn : t = listW
  · subst hn
    rw [wdP_list] at h
    injection h with h
    injection h with h _
    exact absurd h (by decide)
  · have := List.all_eq_true.1 wdN_d _ (wdP_mem h hn)
    rw [Bool.and_eq_true] at this
    exact of_decide_eq_true this.2 rfl
theorem wdq_side : wdP sideW = some ([100], 1) := by decide +kernel
theorem wdq_nil : wdP nilW = some ([116], 1) := by decide +kernel
theorem wdq_none : wdP noneW = some ([116], 1) := by decide +kernel
theorem showD_of : ∀ (r r' : Nat) (n : Nd) (s s' : StW), r ≤ r' → r ≤ 24 → RgN r n → termW r n s = some s' → s'.1 = s.1 ++ showD r' n
  | 0, _, n, s, s', _, _, _, h => by simp [termW] at h
  | r + 1, 0, _, _, _, h, _, _, _ => absurd h (by omega)
  | r + 1, r' + 1, n, s, s', hr, hr24, hg, h => by
    have hkids := hg.2.2.2
    have IH : ∀ k ∈ n.kids, ∀ s s', termW r k s = some s' → s'.1 = s.1 ++ showD r' k ∧ s'.1.length ≤ 9999 := fun k hk s s' h =>
      ⟨showD_of r r' k s s' (by omega) (by omega) (hkids k hk) h, by have := termW_len r k s s' (hkids k hk) h; omega⟩
    rw [termW] at h
    rw [showD]
    split at h
    · cases h
    · rename_i hlen
      by_cases hi : n.op = intW
      · rw [if_pos hi] at h
        rw [if_pos hi]
        split at h
        · injection h with h
          subst h
          rfl
        · cases h
      · rw [if_neg hi] at h
        rw [if_neg hi]
        by_cases ht : n.op = textW
        · rw [if_pos ht] at h
          rw [ht, if_neg (by decide), if_neg (by decide), if_neg (by decide), if_pos rfl]
          split at h
          · cases h
          · split at h
            · injection h with h
              subst h
              rfl
            · cases h
        · rw [if_neg ht] at h
          by_cases hn : n.op = nameW
          · rw [if_pos hn] at h
            rw [if_pos hn]
            split at h
            · split at h
              · injection h with h
                subst h
                rfl
              · cases h
            · cases h
          · rw [if_neg hn] at h
            rw [if_neg hn, if_neg ht]
            unfold wordW at h
            split at h
            · cases h
            · rename_i p least hw
              rcases wd_cases hw with ⟨rfl, rfl⟩ | ⟨rfl, rfl⟩ | ⟨rfl, rfl⟩ | ⟨h101, hps, hl1, _⟩
              · have hs1 : n.op ≠ sideW := fun e => by rw [e, wdq_side] at hw; injection hw with hw; injection hw with hw _; cases hw
                have hs2 : ¬ (n.op = nilW ∨ n.op = noneW) := by
                  rintro (e | e)
                  · rw [e, wdq_nil] at hw; injection hw with hw; injection hw with hw _; cases hw
                  · rw [e, wdq_none] at hw; injection hw with hw; injection hw with hw _; cases hw
                rw [if_neg hs1, if_neg hs2]
                unfold wordP at h
                rw [if_neg (by decide), if_neg (by decide), if_neg (by decide)] at h
                split at h
                · rename_i hb
                  injection h with h
                  subst h
                  rw [bare_kids hb]
                  rfl
                · cases h
              · have hs := wdp_side hw
                rw [if_pos hs]
                unfold wordP at h
                rw [if_neg (by decide), if_pos (by decide)] at h
                split at h
                · cases h
                · split at h
                  · injection h with h
                    subst h
                    rw [hs]
                    simp
                  · cases h
              · have hs := wdp_nil hw
                have hs1 : n.op ≠ sideW := fun e => by rw [e, wdq_side] at hw; injection hw with hw; injection hw with hw _; cases hw
                rw [if_neg hs1, if_pos hs]
                unfold wordP at h
                rw [if_neg (by decide), if_neg (by decide), if_pos (by decide)] at h
                split at h
                · rename_i hm
                  rw [if_pos hm]
                  split at h
                  · injection h with h
                    subst h
                    simp
                  · cases h
                · cases h
              · have hs1 : n.op ≠ sideW := fun e => by rw [e, wdq_side] at hw; injection hw with hw; injection hw with hw _; rw [← hw] at h101; cases h101
                have hs2 : ¬ (n.op = nilW ∨ n.op = noneW) := by
                  rintro (e | e)
                  · rw [e, wdq_nil] at hw; injection hw with hw; injection hw with hw _; rw [← hw] at h101; cases h101
                  · rw [e, wdq_none] at hw; injection hw with hw; injection hw with hw _; rw [← hw] at h101; cases h101
                rw [if_neg hs1, if_neg hs2]
                unfold wordP at h
                rw [if_pos h101] at h
                split at h
                · cases h
                · rename_i hk
                  obtain ⟨s1, e1, e2⟩ := Option.bind_eq_some_iff.1 h
                  split at e2
                  · injection e2 with e2
                    subst e2
                    obtain ⟨g1, g2⟩ := kidsD_of (g := showD r') (Nat.le_refl 9999) n.kids p 40 _ s1 s.1 n.op IH rfl e1
                    have hne : n.kids ≠ [] := fun e => by rw [e] at hk; simp at hk; omega
                    rw [if_neg (by rintro (e | e)
                                   · rw [g1] at e; cases e
                                   · exact hne e), g2]
                    simp
                  · cases e2
theorem show_text {n : Nd} {x : StW} (hg : RgN 24 n) (h : showW n = some x) (r : Nat) (hr : 24 ≤ r) : showD r n = x.1 ∧ x.1.length ≤ 4096 := by
  unfold showW at h
  split at h
  · cases h
  · rename_i s e
    split at h
    · cases h
    · rename_i hl
      injection h with h
      subst h
      have := showD_of 24 r n _ _ hr (Nat.le_refl _) hg e
      exact ⟨by simpa using this.symm, by omega⟩
theorem right_iff {n : Nd} (hg : RgN 24 n) (r : Nat) (hr : 24 ≤ r) : (showW n).isSome = true ↔ (showD r n).length ≤ 4096 ∧ ∃ k, parseR Knd.parseT (showD r n) = (k, some n) := by
  constructor
  · intro h
    obtain ⟨x, hx⟩ := Option.isSome_iff_exists.1 h
    obtain ⟨e1, e2⟩ := show_text hg hx r hr
    rw [e1]
    exact ⟨e2, show_read (t := x.1) (c := x.2) hg hx⟩
  · rintro ⟨h1, k, h2⟩
    obtain ⟨_, c, e⟩ := parse_good h2 h1
    rw [e]
    rfl
theorem kidsD_len {g : Nd → List UInt8} {F : Nat} : ∀ (l : List Nd) (mark : UInt8) (s : List UInt8), (∀ k ∈ l, (g k).length ≤ F) → s.length ≤ 10000 → (kidsD g l mark s).1.length ≤ 10001 + F
  | [], _, s, _, h => by show s.length ≤ _; omega
  | k :: l, mark, s, hF, h => by
    have hk := hF k (List.mem_cons_self ..)
    rw [kidsD]
    split
    · show ((s ++ [mark]) ++ g k).length ≤ _
      simp
      omega
    · exact kidsD_len l 44 _ (fun k hk => hF k (List.mem_cons_of_mem _ hk)) (by omega)
set_option maxRecDepth 10000 in
theorem showD_len : ∀ (e i : Nat) (n : Nd), FewN e n → IntN i n → (showD e n).length ≤ 40000 + 10002 * e
  | 0, _, _, h, _ => h.elim
  | _ + 1, 0, _, _, h => h.elim
  | e + 1, i + 1, n, ⟨h0, h1, h2, h3, h4⟩, ⟨g0, g1, g2⟩ => by
    have hi := itoa_le n.int g0 g1
    rw [showD]
    split
    · omega
    · split
      · exact Nat.le_trans h0 (Nat.le_trans (by decide : 10000 ≤ 40000) (Nat.le_add_right ..))
      · split
        · simp only [sideW, List.length_append, List.length_cons, List.length_nil]
          omega
        · split
          · split
            · rename_i hq
              obtain ⟨q, hq⟩ := Option.isSome_iff_exists.1 hq
              have := Knd.textT_small 6 n.ty q hq
              simp only [List.length_append, List.length_cons, List.length_nil]
              omega
            · simp only [List.length_cons, List.length_nil]
              omega
          · split
            · have := quoL_le n.text
              simp only [quoS, List.length_append, List.length_cons, List.length_nil]
              omega
            · have hk := kidsD_len (g := showD e) (F := 40000 + 10002 * e) n.kids 40 n.op (fun k hk => showD_len e i k (h4 k hk) (g2 k hk)) (by omega)
              split
              · omega
              · simp only [List.length_append, List.length_cons, List.length_nil]
                omega
end Go.Proofs.YtadbnlnifacblaaGreatDoor
