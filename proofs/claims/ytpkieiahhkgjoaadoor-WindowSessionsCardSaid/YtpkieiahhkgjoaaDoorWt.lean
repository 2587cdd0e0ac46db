/-
WindowSessions: the times sorted by inserting. 
-/
import Derived.Test.YtpkieiahhkgjoaaDoorWs
import Derived.Deep.RegionLaw
import Derived.Deep.AppendLies
import Derived.Deep.CutBlock
import Derived.Deep.DeepCutAuto
set_option linter.unusedVariables false
namespace Go.Proofs.YtpkieiahhkgjoaaDoor
open Go.RowKit

theorem own_low {w w' : World} {B e size n : Nat} {v : Value} {xs : List Value} (h : w.ownsRow B e size v n xs) (hb : Below w.heap.size w w') : w'.ownsRow B e size v n xs := by
  obtain ⟨h1, h2⟩ := h
  refine ⟨h1, ?_⟩
  rcases h2 with h0 | ⟨g, cap, cur, hv, hg, hgg, hr⟩
  · exact .inl h0
  · exact .inr ⟨g, cap, cur, hv, hg, (hb.block g (cell_lt hgg)).trans hgg, hr⟩

theorem own_apart {w : World} {B e e' size size' n n' : Nat} {v v' : Value} {xs xs' : List Value} (h : w.ownsRow B e size v n xs) (h' : w.ownsRow B e' size' v' n' xs') (he : e ≠ e') : v.ownBlock = none ∨ v.ownBlock ≠ v'.ownBlock := by
  obtain ⟨_, h0 | ⟨g, cap, cur, hv, _, hg, _⟩⟩ := h
  · left; rw [h0.1]; rfl
  · right
    obtain ⟨_, h0 | ⟨g', cap', cur', hv', _, hg', _⟩⟩ := h'
    · rw [hv, h0.1]; intro k; cases k
    · rw [hv, hv']
      intro k
      injection k with k
      subst k
      rw [hg] at hg'
      injection hg' with k
      injection k with _ k
      exact he k

theorem own_two {w : World} {B e n c : Nat} {A : Option Addr} {xs : List Value} (h : w.ownsRow B e 1 (.slice A n c) n xs) : (A = none ∧ n = 0 ∧ c = 0) ∨ ∃ g, A = some ⟨g, 0, none⟩ ∧ n ≤ c ∧ g < w.heap.size := by
  obtain ⟨_, h0 | ⟨g, cap, cur, hv, _, hg, hle, _⟩⟩ := h
  · left
    have h1 := h0.1
    injection h1 with a b c
    exact ⟨a, b, c⟩
  · right
    injection hv with a b c
    subst c
    exact ⟨g, a, hle, cell_lt hg⟩

theorem own_newI (w : World) (t : Int) (B : Nat) (hB : B ≤ w.heap.size) : (w.alloc (.cells #[.int .i64 t] 3)).ownsRow B 3 1 (.slice (some ⟨w.heap.size, 0, none⟩) 1 1) 1 [.int .i64 t] :=
  ⟨rfl, .inr ⟨w.heap.size, 1, #[.int .i64 t], rfl, hB, heap_alloc_new w _, by omega, by unfold maxLen; omega, rfl, rfl⟩⟩

theorem step_append_any {P : Program} {w : World} {ops : Array Oper} {o : Oper} {a : Act} {K : Act → World → Prop} {Q : Exit → Act → World → Prop} {E : Prop} (hgd : o.guard = none) (s x : Operand) (t : TypeId)
    (ho : o.op = .call { callee := .builtin .append, args := #[s, x], argTypes := #[t, t] })
    (base : Nat) (e : TypeId) (i : TypeInfo) (z : Value) (size bytes : Nat) (ht : P.underlying t = some (.slice e)) (hi : P.info? e = some i) (hz : i.zero = some z)
    (hsize : i.size = size) (hby : i.bytes = bytes) (hzs : z.cells.size = size) (hsz : 0 < size)
    (v : Value) (n : Nat) (xs : List Value) (hs : a.eval s = v) (hown : w.ownsRow base e size v n xs)
    (ad : Addr) (m c : Nat) (news : List Value) (hx : a.eval x = .slice (some ad) m c) (hl : news.length = m * size) (hnews : ∀ j u, news[j]? = some u → w.cell? (ad.add j) = some u) (h1 : ∀ u ∈ news, u.oneCell' = true)
    (h63 : n + m ≤ maxLen) (hbytes : (n + m) * bytes ≤ 140737488355328) (hbase : base ≤ w.heap.size)
    (h : ∀ v' w', w'.ownsRow base e size v' (n + m) (xs ++ news) → w.grownBy w' v.ownBlock → (v' = .slice none 0 0 ↔ v = .slice none 0 0 ∧ m = 0) → K (a.put o.dst v') w') :
    if Region.wanted o (yielded ops a.tmps) = true then Oper.wp P o a w K Q else E := by
  have hw : Region.wanted o (yielded ops a.tmps) = true := by simp [Region.wanted, hgd]
  rw [if_pos hw]
  exact wp_append_own w s x t ho base e i z size bytes ht hi hz hsize hby hzs hsz v n xs hs hown ad m c news hx hl hnews h1 h63 hbytes hbase h

theorem step_append_none {P : Program} {w : World} {ops : Array Oper} {o : Oper} {a : Act} {K : Act → World → Prop} {Q : Exit → Act → World → Prop} {E : Prop} (hgd : o.guard = none) (s x : Operand) (t : TypeId)
    (ho : o.op = .call { callee := .builtin .append, args := #[s, x], argTypes := #[t, t] })
    (base : Nat) (e : TypeId) (i : TypeInfo) (size : Nat) (ht : P.underlying t = some (.slice e)) (hi : P.info? e = some i)
    (v : Value) (n : Nat) (xs : List Value) (hs : a.eval s = v) (hown : w.ownsRow base e size v n xs) (hx : a.eval x = .slice none 0 0)
    (h : K (a.put o.dst v) w) :
    if Region.wanted o (yielded ops a.tmps) = true then Oper.wp P o a w K Q else E := by
  have hw : Region.wanted o (yielded ops a.tmps) = true := by simp [Region.wanted, hgd]
  rw [if_pos hw]
  have hrun := run_append_owned_none (P := P) (w := w) base t o.type e i size ht hi v n xs hown
  unfold Oper.wp
  simp [execOp, ho, resolve, invoke, builtin, hs, hx, hrun, Result.andThen]
  exact h

theorem valI_one (l : List Int) : ∀ u ∈ valI l, u.oneCell' = true := by
  intro u hu
  unfold valI at hu
  rw [List.mem_map] at hu
  obtain ⟨x, _, rfl⟩ := hu
  rfl

theorem own_cellsI {w : World} {B e n c g : Nat} {xs : List Value} (h : w.ownsRow B e 1 (.slice (some ⟨g, 0, none⟩) n c) n xs) : ∀ j u, xs[j]? = some u → w.cell? ((⟨g, 0, none⟩ : Addr).add j) = some u :=
  fun j u hj => h.cells (g := g) rfl j u hj

theorem runsOf_first (g : Int) {l : List Int} (h : 0 < l.length) (hs : l.Pairwise (· ≤ ·)) : ∃ hk : 0 < (runsOf g l).length, ((runsOf g l)[0]).1 = l[0] := by
  cases l with
  | nil => simp at h
  | cons t r =>
    obtain ⟨q, tl, h1, _⟩ := runs_head g r t t hs
    have h2 : runsOf g (t :: r) = (t, q + g) :: tl := h1
    refine ⟨by rw [h2]; simp, ?_⟩
    simp [h2]

theorem mrgR_len : ∀ (l st : List Wn), (mrgR st l).length ≤ st.length + l.length
  | [], st => by simp [mrgR]
  | x :: l, st => by
    have h1 := mrgR_len l (pushW st x)
    have h2 := push_len st x
    show (mrgR (pushW st x) l).length ≤ _
    simp; omega

theorem mrg_len (l : List Wn) : (mrg l).length ≤ l.length := by
  unfold mrg
  rw [List.length_reverse]
  have := mrgR_len (srt l) []
  have h := (srt_perm l).length_eq
  simp at this; omega

theorem asg_ses (g t : Int) : asg 3 g 0 0 t = [sesW g t] := rfl

theorem assign_ses (g t : Int) (w : World) (hr : rgtB 3 g 0 0 = true) (ht : 0 ≤ t ∧ t ≤ 1048576) :
    Calls Tryd.prog 6 #[.agg #[.int .i64 3, .int .i64 g, .int .i64 0, .int .i64 0], .int .i64 t] w fun e w' => (∃ b o c, e = .returned (.tuple #[.slice (some ⟨b, o, none⟩) 1 c, .int .i64 0]) ∧ b < w'.heap.size ∧ w'.cell? ⟨b, o, none⟩ = some (.int .i64 t) ∧ w'.cell? ⟨b, o + 1, none⟩ = some (.int .i64 (t + g))) ∧ Below w.heap.size w w' :=
  (assign_ok 3 g 0 0 t w hr ht.1 ht.2).mono fun e w' ⟨⟨a, c, he, hv⟩, hb⟩ => by
    rw [asg_ses] at hv he
    obtain ⟨a', c', hv', hc, hA⟩ := hv
    injection hv' with e1 e2 e3
    subst e1; subst e3
    obtain ⟨b, o, rfl, _, h2, h3⟩ := hA (by simp)
    have h4 := h3 0 _ rfl
    exact ⟨⟨b, o, c, he, h2, by simpa [sesW] using h4.1, by simpa [sesW] using h4.2⟩, hb⟩

set_option maxRecDepth 100000 in
set_option maxHeartbeats 8000000 in
theorem sess_ok (gap : Int) (v : Value) (ts : List Int) (w : World) (h : IsAt w 0 v ts) (hr : rgtB 3 gap 0 0 = true) (hl : ts.length ≤ 60) :
    Calls Tryd.prog 3 #[.int .i64 gap, v] w fun e w' => e = .returned (.bool true) ∧ Below w.heap.size w w' := by
  obtain ⟨i0, hi, hq0, hq1, hq2⟩ := info_parts Tryd.infoW
  obtain ⟨i1, hi1, hr0, hr1, hr2⟩ := info_parts infoI
  have HR := Lib.hid hr
  obtain ⟨a, c, rfl, hlc, hA⟩ := h
  have HA := Lib.hid hA
  have hd : decide ((60 : Int) < (ts.length : Int)) = false := decide_eq_false (by omega)
  have hgap : 1 ≤ gap ∧ gap ≤ 1048576 := by rcases rgt_of hr with h | h | h | h <;> omega
  clear hr hA
  go_enter Tryd.func3, Tryd.ntmps3
  go_wp2_with (go_at_call 4; refine (check_r 3 gap 0 0 _ true HR.out).mono ?_; rintro e w1 ⟨rfl, hb1⟩; have HB1 : Hid (Below w.heap.size w w1) := Lib.hid (((Below.refl _ w).alloc (Nat.le_refl _) _).trans (hb1.mono (by simp))); have HF1 := Lib.hid ((hb1.block w.heap.size (by simp)).trans (heap_new_at rfl)); clear hb1)
  have hs1 := HB1.out.size
  have hf1 := cell_lt HF1.out
  go_loopw [6, 7, 31] (fun av lv iv wr => ∃ (j : Nat) (ls : List Int) (A : List Wn), iv = .int .i64 (j : Int) ∧ j ≤ ts.length ∧ ls.length ≤ j ∧ Hid (A.length = ls.length) ∧ Hid (ls.Pairwise (· ≤ ·)) ∧ Hid (A.Perm (ls.map (sesW gap))) ∧ Hid (∀ x ∈ ls, 0 ≤ x ∧ x ≤ 1048576) ∧ Hid (wr.ownsRow w1.heap.size 33 2 av A.length (flat A)) ∧ Hid (wr.ownsRow w1.heap.size 3 1 lv ls.length (valI ls)) ∧ Hid (Below w1.heap.size w1 wr)) (fun _ _ iv _ => ts.length - (intOf iv).toNat)
  case atStart => exact ⟨0, [], [], rfl, Nat.zero_le _, Nat.le_refl _, Lib.hid rfl, Lib.hid List.Pairwise.nil, Lib.hid (List.Perm.refl _), Lib.hid (fun x hx => by simp at hx), Lib.hid (World.ownsRow_nil _ _ _ _), Lib.hid (World.ownsRow_nil _ _ _ _), Lib.hid (Below.refl _ _)⟩
  case round =>
    obtain ⟨j, ls, A, rfl, hj, hlj, hAl, HSO, HPE, HRG, HOA, HOL, HB⟩ := hrel
    have hsr := HB.out.size
    have hA60 : A.length < 60 + 1 := by have := hAl.out; omega
    by_cases hlt : j < ts.length
    · obtain ⟨b, o, rfl, hb0, hb2, hcells⟩ := HA.out (by omega)
      have c0 := hcells j _ (List.getElem?_eq_getElem hlt)
      have hbw1 : b < w1.heap.size := by omega
      have c0 := (HB.out.cell (p := ⟨b, o + j, none⟩) hbw1).trans ((HB1.out.cell (p := ⟨b, o + j, none⟩) hb2).trans c0)
      have hF := (HB.out.block _ hf1).trans HF1.out
      obtain ⟨f0, f1, f2, f3⟩ := box4 hF
      clear hcells hF
      generalize ts[j] = t at *
      have hj0' : (0 : Int) ≤ (j : Int) := by omega
      have hj1' : (j : Int) < (ts.length : Int) := by omega
      by_cases ht : 0 ≤ t ∧ t ≤ 1048576
      · have HTR := Lib.hid ht
        clear ht
        obtain ⟨Av, Ac, rfl⟩ := own_slice HOA.out
        obtain ⟨Lv, Lc, rfl⟩ := own_slice HOL.out
        go_upto_block 2 with (first
          | (at_builtin; refine wpList_append_own _ rfl _ _ 28 rfl w1.heap.size 33 i0 (.agg #[.int .i64 0, .int .i64 0]) 2 16 Tryd.underlying28 hi hq0 hq1 hq2 rfl (by decide) _ _ (flat A) rfl HOA2.out ⟨bw, ow, none⟩ 1 _ [.int .i64 t, .int .i64 (t + gap)] rfl rfl HNW.out (two_one _ _) (by unfold maxLen; omega) (by omega) (by omega) ?_; intro v7 w7 hown7 hg7 _)
          | (go_at_call 6; refine (assign_ses gap t _ HR.out HTR.out).mono ?_; rintro e w5 ⟨⟨bw, ow, cw, rfl, hbw, hw0, hw1⟩, hb5⟩; have HOA2 := Lib.hid (own_low HOA.out hb5); have HOL2 := Lib.hid (own_low HOL.out hb5); have HB5 := Lib.hid (HB.out.trans (hb5.mono hsr)); have hs5 := HB5.out.size; have HNW : Hid (∀ j u, [Value.int .i64 t, Value.int .i64 (t + gap)][j]? = some u → w5.cell? ((⟨bw, ow, none⟩ : Addr).add j) = some u) := Lib.hid (ws_news (l := [(t, t + gap)]) (fun j x hx => by match j, hx with | 0, hx => simp at hx; subst hx; exact ⟨by simpa using hw0, by simpa using hw1⟩ | j + 1, hx => simp at hx)); clear hb5 hbw hw0 hw1))
        have HOL7 := Lib.hid (HOL2.out.kept hg7 (own_apart HOL2.out HOA2.out (by decide)))
        have HOA7 := Lib.hid hown7
        have HB7 : Hid (Below w1.heap.size w1 w7) := Lib.hid (HB5.out.grown hg7 (by omega) fun k hk => (HOA2.out.lt k hk).1)
        have hs7 := HB7.out.size
        clear hown7 hg7 HNW HOA2 HOL2 HB5 HOA HOL
        go_cut [12] from 48 to 61 (fun av wx => wx = w7 ∧ ∃ k : Nat, av = .int .i64 (k : Int) ∧ k ≤ ls.length ∧ (∀ m (h : m < ls.length), k ≤ m → t < ls[m]) ∧ (∀ m, m + 1 = k → (h : m < ls.length) → ls[m] ≤ t))
        case first =>
          go_wp2_with (fail)
          go_loop [12] (fun av => ∃ k : Nat, av = .int .i64 (k : Int) ∧ k ≤ ls.length ∧ Hid (∀ m (h : m < ls.length), k ≤ m → t < ls[m])) (fun av => (intOf av).toNat)
          case atStart => exact ⟨ls.length, rfl, Nat.le_refl _, Lib.hid fun m h1 h2 => by omega⟩
          case round =>
            obtain ⟨k, rfl, hk, HGT⟩ := hrel
            cases k with
            | zero =>
              go_wp2_with (fail)
              go_meet
              exact ⟨rfl, 0, rfl, hk, HGT.out, fun m hm => by omega⟩
            | succ q =>
              rcases own_two HOL7.out with ⟨_, h0, _⟩ | ⟨g, rfl, hlc2, hg2⟩
              · omega
              · have cq := own_cellI HOL7.out (j := q) (by omega)
                have HLq : Hid (∀ h : q < ls.length, ls[q] = ls[q]'(by omega)) := Lib.hid fun _ => rfl
                obtain ⟨u, hu⟩ : ∃ u, u = ls[q]'(by omega) := ⟨_, rfl⟩
                rw [← hu] at cq
                have HU := Lib.hid hu
                clear hu
                have e0 : ((q + 1 : Nat) : Int) = (q : Int) + 1 := by omega
                have e1 : decide ((0 : Int) < (q : Int) + 1) = true := decide_eq_true (by omega)
                rw [e0]
                by_cases hgt : t < u
                · have e2 : decide (t < u) = true := decide_eq_true hgt
                  go_wp2_with (fail)
                  go_round
                  case rel => exact ⟨q, by go_num, by omega, Lib.hid fun m hm hkm => by
                    rcases Nat.lt_or_ge q m with h | h
                    · exact HGT.out m hm h
                    · obtain rfl : m = q := by omega
                      rw [← HU.out]; exact hgt⟩
                  case measure => simp [intOf] <;> omega
                · have e2 : decide (t < u) = false := decide_eq_false hgt
                  go_wp2_with (fail)
                  go_meet
                  exact ⟨rfl, q + 1, by rw [e0], hk, HGT.out, fun m hm hlt2 => by
                    obtain rfl : m = q := by omega
                    rw [← HU.out]; omega⟩
        obtain ⟨rfl, k, rfl, hk, hgt, hlo⟩ := hcut
        obtain ⟨hsp, hpp⟩ := ins_sorted HSO.out t k hk hgt hlo
        have HS2 := Lib.hid hsp
        have HP2 := Lib.hid hpp
        clear hgt hlo hsp hpp
        have hkc : (k : Int) ≤ (ls.length : Int) := by omega
        have hk0 : (0 : Int) ≤ (k : Int) := by omega
        go_upto_region 15 with (fail)
        have hfA : flat (A ++ [(t, t + gap)]) = flat A ++ [.int .i64 t, .int .i64 (t + gap)] := by simp [flat, encW]
        have hAl2 : (A ++ [(t, t + gap)]).length = A.length + 1 := by simp
        have hvl : valI (ls.take k ++ t :: ls.drop k) = (valI ls).take k ++ ([.int .i64 t] ++ valI (ls.drop k)) := by simp [valI, List.map_take]
        have hll2 : (ls.take k ++ t :: ls.drop k).length = k + (1 + (ls.length - k)) := by simp; omega
        obtain ⟨ls2, hls2⟩ : ∃ ls2, ls2 = ls.take k ++ t :: ls.drop k := ⟨_, rfl⟩
        rw [← hls2] at HS2 HP2 hvl hll2
        have HPE2 : Hid ((A ++ [(t, t + gap)]).Perm (ls2.map (sesW gap))) := Lib.hid (((HPE.out.append_right _).trans (List.perm_append_comm (l₁ := ls.map (sesW gap)) (l₂ := [sesW gap t]))).trans ((HP2.out.map (sesW gap)).symm))
        have HRG2 : Hid (∀ x ∈ ls2, 0 ≤ x ∧ x ≤ 1048576) := Lib.hid (fun x hx => by
          rcases List.mem_cons.1 (HP2.out.mem_iff.1 hx) with rfl | h
          · exact HTR.out
          · exact HRG.out x h)
        have HAL2 : Hid ((A ++ [(t, t + gap)]).length = ls2.length) := Lib.hid (by have := hAl.out; rw [hAl2, hll2]; omega)
        have HVL := Lib.hid hvl
        have HFA := Lib.hid hfA
        have HLL := Lib.hid hll2
        have HAL := Lib.hid hAl2
        clear hls2 hvl hfA hll2 hAl2
        rcases own_two HOL7.out with ⟨rfl, h0, rfl⟩ | ⟨g, rfl, hlc2, hg2⟩
        · obtain rfl : ls = [] := List.length_eq_zero_iff.1 h0
          obtain rfl : k = 0 := by simpa using hk
          have HN := Lib.hid (own_newI wc t w1.heap.size hs7)
          have HAN := Lib.hid (HOA7.out.alloc (.cells #[.int .i64 t] 3))
          have HBN : Hid (Below w1.heap.size w1 (wc.alloc (.cells #[.int .i64 t] 3))) := Lib.hid (HB7.out.alloc hs7 _)
          go_region_law (first
            | (have hseen := HSEEN.out; refine step_append_any (by rfl) _ _ _ (by rfl) w1.heap.size 3 i1 (.int .i64 0) 1 8 Tryd.underlying22 hi1 hr0 hr1 hr2 rfl (by omega) (.slice none 0 0) 0 [] (by rfl) (World.ownsRow_nil _ _ _ _) ⟨wc.heap.size, 0, none⟩ 1 1 [.int .i64 t] (by rfl) (by rfl) (own_cellsI HN.out) (valI_one [t]) (by unfold maxLen; omega) (by omega) (by simp; omega) ?_; intro v9 w9 hown9 hg9 _; have HO9 := Lib.hid hown9; have HA9 := Lib.hid (HAN.out.drew.kept hg9 (own_apart HAN.out.drew (World.ownsRow_nil _ w1.heap.size 3 1) (by decide))); have HB9 : Hid (Below w1.heap.size w1 w9) := Lib.hid (HBN.out.drew.grown hg9 (by have := HBN.out.size; simp; omega) (fun k hk => by cases hk)); clear hown9 hg9)
            | (refine step_append_none (by rfl) _ _ _ (by rfl) w1.heap.size 3 i1 1 Tryd.underlying22 hi1 (.slice (some ⟨wc.heap.size, 0, none⟩) 1 1) 1 [.int .i64 t] (by rfl) HN.out.drew (by rfl) ?_; have HSEEN := Lib.hid True.intro))
          go_wp2_with (fail)
          go_roundw
          case rel => exact ⟨j + 1, ls2, A ++ [(t, t + gap)], by go_num, by omega, by rw [HLL.out]; omega, HAL2, HS2, HPE2, HRG2, Lib.hid (by rw [HFA.out, HAL.out]; exact HA9.out), Lib.hid (by rw [HVL.out, HLL.out]; exact HO9.out), Lib.hid HB9.out⟩
          case measure => simp [intOf]; omega
        · have hkl : (k : Int) ≤ (Lc : Int) := by omega
          have hll : (ls.length : Int) ≤ (Lc : Int) := by omega
          obtain ⟨o2, hif, ho2⟩ : ∃ o2, (if Lc = k then some (⟨g, 0, none⟩ : Addr) else some ⟨g, k, none⟩) = some ⟨g, o2, none⟩ ∧ (k < ls.length → o2 = k) := by
            by_cases h : Lc = k
            · exact ⟨0, if_pos h, fun h => by omega⟩
            · exact ⟨k, if_neg h, fun _ => rfl⟩
          have HN := Lib.hid (own_newI wc t w1.heap.size hs7)
          have HLN := Lib.hid (HOL7.out.alloc (.cells #[.int .i64 t] 3))
          have HAN := Lib.hid (HOA7.out.alloc (.cells #[.int .i64 t] 3))
          have HBN : Hid (Below w1.heap.size w1 (wc.alloc (.cells #[.int .i64 t] 3))) := Lib.hid (HB7.out.alloc hs7 _)
          have HNWS : Hid (∀ j u, (valI (ls.drop k))[j]? = some u → (wc.alloc (.cells #[.int .i64 t] 3)).cell? ((⟨g, o2, none⟩ : Addr).add j) = some u) := Lib.hid (fun j u hj => by
            have hjl : j < (ls.drop k).length := by have := (List.getElem?_eq_some_iff.1 hj).1; simpa [valI] using this
            rw [List.length_drop] at hjl
            obtain rfl := ho2 (by omega)
            have hc := own_cellI HLN.out (j := o2 + j) (by omega)
            rw [addr_add, hc]
            unfold valI at hj
            rw [List.getElem?_map, List.getElem?_drop, List.getElem?_eq_getElem (by omega)] at hj
            exact hj)
          have HNE : Hid (some g ≠ some wc.heap.size) := Lib.hid (by intro h; injection h; omega)
          have HAE : Hid (∀ x, v7.ownBlock = some x → x < wc.heap.size) := Lib.hid (fun x hx => (HOA7.out.lt x hx).2)
          clear ho2
          go_region_law (first
            | (refine step_append_any (by rfl) _ _ _ (by rfl) w1.heap.size 3 i1 (.int .i64 0) 1 8 Tryd.underlying22 hi1 hr0 hr1 hr2 rfl (by omega) (.slice (some ⟨g, 0, none⟩) k Lc) k ((valI ls).take k) (by rfl) (own_take HL8.out hk) ⟨g8, 0, none⟩ (1 + (ls.length - k)) c8 ([.int .i64 t] ++ valI (ls.drop k)) (by rfl) (by simp [valI] <;> omega) (own_cellsI HO8.out) (valI_one (t :: ls.drop k)) (by unfold maxLen; omega) (by omega) (by have := HB8.out.size; first | omega | (simp; omega)) ?_; intro v9 w9 hown9 hg9 _; have HO9 := Lib.hid hown9; have HA9 := Lib.hid (HA8.out.kept hg9 (own_apart HA8.out (own_take HL8.out hk) (by decide))); have HB9 : Hid (Below w1.heap.size w1 w9) := Lib.hid (HB8.out.grown hg9 (by have := HB8.out.size; first | omega | (simp; omega)) (fun k hk => ((own_take HL8.out (by assumption)).lt k hk).1)); clear hown9 hg9)
            | (refine step_append_any (by rfl) _ _ _ (by rfl) w1.heap.size 3 i1 (.int .i64 0) 1 8 Tryd.underlying22 hi1 hr0 hr1 hr2 rfl (by omega) (.slice (some ⟨wc.heap.size, 0, none⟩) 1 1) 1 [.int .i64 t] (by rfl) HN.out.drew ⟨g, o2, none⟩ (ls.length - k) (Lc - k) (valI (ls.drop k)) (by rfl) (by simp [valI]) HNWS.out (valI_one _) (by unfold maxLen; omega) (by omega) (by simp; omega) ?_; intro v8 w8 hown8 hg8 _; have HL8 := Lib.hid (HLN.out.drew.kept hg8 (.inr HNE.out)); have HA8 := Lib.hid (HAN.out.drew.kept hg8 (.inr (fun h => absurd (HAE.out _ h) (Nat.lt_irrefl _)))); have HB8 : Hid (Below w1.heap.size w1 w8) := Lib.hid (HBN.out.drew.grown hg8 (by have := HBN.out.size; simp; omega) (fun k hk => by cases hk; omega)); obtain ⟨A8, c8, rfl⟩ := own_slice hown8; rcases own_two hown8 with ⟨_, h8, _⟩ | ⟨g8, rfl, _, _⟩; (omega); have HO8 := Lib.hid hown8; clear hown8 hg8))
          go_wp2_with (fail)
          go_roundw
          case rel => exact ⟨j + 1, ls2, A ++ [(t, t + gap)], by go_num, by omega, by rw [HLL.out]; omega, HAL2, HS2, HPE2, HRG2, Lib.hid (by rw [HFA.out, HAL.out]; exact HA9.out), Lib.hid (by rw [HVL.out, HLL.out]; exact HO9.out), Lib.hid HB9.out⟩
          case measure => simp [intOf]; omega
      · have HTR := Lib.hid ht
        clear ht
        go_wp2_with (go_at_call 6; refine (assign_late 3 gap 0 0 t _ HR.out HTR.out).mono ?_; rintro e w5 ⟨rfl, hb5⟩)
        go_roundw
        case rel => exact ⟨j + 1, ls, A, by go_num, by omega, by omega, hAl, HSO, HPE, HRG, Lib.hid (own_low HOA.out hb5), Lib.hid (own_low HOL.out hb5), Lib.hid (HB.out.trans (hb5.mono hsr))⟩
        case measure => simp [intOf]; omega
    · obtain rfl : j = ts.length := by omega
      have HAK : Hid (WsAt wr w1.heap.size u6 A) := Lib.hid (WsAt.own HOA.out)
      have HAP : Hid (Prp u6) := Lib.hid fun n c e => by
        rcases HOA.out.2 with ⟨h1, _⟩ | ⟨g', cap', cur, h1, _⟩
        · exact h1
        · rw [h1] at e; cases e
      have HGA : Hid (∀ x ∈ A, GdW x) := Lib.hid fun x hx => by
        obtain ⟨t, ht, rfl⟩ := List.mem_map.1 (HPE.out.mem_iff.1 hx)
        have := HRG.out t ht
        show -1048576 ≤ t ∧ t < t + gap ∧ t + gap ≤ 2097153
        omega
      have HMR : Hid (mrg A = runsOf gap ls) := Lib.hid (mrg_runs gap hgap.1 HSO.out HPE.out)
      obtain ⟨M, hM⟩ : ∃ M, M = mrg A := ⟨_, rfl⟩
      have HML : Hid (M.length ≤ A.length) := Lib.hid (by rw [hM]; exact mrg_len A)
      rw [← hM] at HMR
      have HMG := Lib.hid (merge_ok _ u6 A wr HAK.out HAP.out (by omega) HGA.out)
      rw [← hM] at HMG
      clear hM
      obtain ⟨Lv, Lc, rfl⟩ := own_slice HOL.out
      have hlen : ls.length ≤ 60 := by omega
      go_wp2_with (fail)
      refine HMG.out.mono ?_
      rintro e w3 ⟨⟨um, rfl, hm, hmp⟩, hb3⟩
      have HOL3 := Lib.hid (own_low HOL.out hb3)
      have HB3 : Hid (Below w1.heap.size w1 w3) := Lib.hid (HB.out.trans (hb3.mono hsr))
      obtain ⟨ma, mc, rfl, hmc, hmA⟩ := hm
      have HMC := Lib.hid hmA
      have hs3 := HB3.out.size
      have hM60 : M.length < 61 := by have := HML.out; omega
      clear hmA hmp hb3 HMG
      go_wp2_with (fail)
      go_loopw [15, 81] (fun kv iv wq => ∃ (n k : Nat), kv = .int .i64 (k : Int) ∧ iv = .int .i64 (n : Int) ∧ n ≤ ls.length ∧ Hid ((n = 0 ∧ k = 0) ∨ RunAt gap ls M n k) ∧ Hid (Below w3.heap.size w3 wq)) (fun _ iv _ => ls.length - (intOf iv).toNat)
      case atStart => exact ⟨0, 0, rfl, rfl, Nat.zero_le _, Lib.hid (.inl ⟨rfl, rfl⟩), Lib.hid (Below.refl _ _)⟩
      case round =>
        obtain ⟨n, k, rfl, rfl, hn, HRA, HBQ⟩ := hrel
        have hsq := HBQ.out.size
        have HOQ := Lib.hid (own_low HOL3.out HBQ.out)
        by_cases hlt : n < ls.length
        · rcases own_two HOQ.out with ⟨_, h0, _⟩ | ⟨g, rfl, hlc2, hg2⟩
          · omega
          have ct := own_cellI HOQ.out hlt
          have htr := HRG.out ls[n] (List.getElem_mem hlt)
          have hn0' : (0 : Int) ≤ (n : Int) := by omega
          have hn1' : (n : Int) < (ls.length : Int) := by omega
          cases n with
          | zero =>
            obtain rfl : k = 0 := by
              rcases HRA.out with ⟨_, h⟩ | ⟨_, _, _, h, _⟩
              · exact h
              · omega
            obtain ⟨hM0, hM1⟩ := runsOf_first gap hlt HSO.out
            have hRA1 : RunAt gap ls M 1 0 := by rw [HMR.out]; exact run_first gap hlt
            have HRA1 := Lib.hid hRA1
            have hget := runAt_get hgap.1 HSO.out hRA1
            have hMp : 0 < M.length := by rw [HMR.out]; exact hM0
            have hMf : (M[0]).1 = ls[0] := by have := hM1; simp only [← HMR.out] at this; exact this
            obtain ⟨mb, mo, rfl, _, hmb, hmcells⟩ := HMC.out hMp
            obtain ⟨c0, c1⟩ := ws_cells hmcells hMp
            have c0 := (HBQ.out.cell (p := ⟨mb, mo + 0 * 2, none⟩) hmb).trans c0
            have c1 := (HBQ.out.cell (p := ⟨mb, mo + 0 * 2 + 1, none⟩) hmb).trans c1
            obtain ⟨_, _, h1, h2, _⟩ := hget
            have h2 : ls[0] < (M[0]).2 := h2
            clear hmcells h1 hM1 hM0 hRA1
            generalize (M[0]).2 = u at *
            rw [hMf] at c0
            simp only [Nat.zero_mul, Nat.add_zero] at c0 c1
            clear hMf
            generalize ls[0] = t at *
            have e1 : decide (t < t) = false := decide_eq_false (by omega)
            have e2 : decide (u ≤ t) = false := decide_eq_false (by omega)
            have hM1' : ((0 : Int) < (M.length : Int)) := by omega
            have hMne : ¬ M = [] := by intro h; rw [h] at hMp; simp at hMp
            go_wp2_with (fail)
            exact ⟨⟨1, 0, rfl, by go_num, by omega, Lib.hid (.inr HRA1.out), HBQ⟩, by simp [intOf]; omega⟩
          | succ q =>
            obtain ⟨HRQ⟩ : Nonempty (Hid (RunAt gap ls M (q + 1) k)) := by
              rcases HRA.out with ⟨h, _⟩ | h
              · omega
              · exact ⟨Lib.hid h⟩
            have cp := own_cellI HOQ.out (j := q) (by omega)
            have hpr := HRG.out (ls[q]'(by omega)) (List.getElem_mem (by omega))
            obtain ⟨_, hk, hm1, hm2, _⟩ := runAt_get hgap.1 HSO.out HRQ.out
            obtain ⟨hmore1, hmore2⟩ := run_more HRQ.out HSO.out hlt
            have hmore1 : gap ≤ ls[q + 1] - ls[q]'(by omega) → ∃ hk : k < M.length, (M[k]).2 = ls[q]'(by omega) + gap ∧ RunAt gap ls M (q + 1 + 1) (k + 1) ∧ (∀ hk1 : k + 1 < M.length, (M[k + 1]).1 = ls[q + 1]) := hmore1
            have hmore2 : ¬ gap ≤ ls[q + 1] - ls[q]'(by omega) → RunAt gap ls M (q + 1 + 1) k := hmore2
            obtain ⟨mb, mo, rfl, _, hmb, hmcells⟩ := HMC.out (by omega)
            have en : ((q + 1 : Nat) : Int) = (q : Int) + 1 := by omega
            have eq1 : decide ((0 : Int) < (q : Int) + 1) = true := decide_eq_true (by omega)
            have eq2 : ((q : Int) + 1 == 0) = false := by simp; omega
            have hq0 : (0 : Int) ≤ (q : Int) := by omega
            have hq1 : (q : Int) < (ls.length : Int) := by omega
            have hq2 : (q : Int) + 1 < (ls.length : Int) := by omega
            have hkM : (k : Int) < (M.length : Int) := by omega
            have hkM0 : (0 : Int) ≤ (k : Int) := by omega
            rw [en]
            by_cases hgp : gap ≤ ls[q + 1] - ls[q]'(by omega)
            · obtain ⟨_, hM2, hR2, hF2⟩ := hmore1 hgp
              obtain ⟨_, hk2, hn1, hn2, _⟩ := runAt_get hgap.1 HSO.out hR2
              have hF2 := hF2 hk2
              have hn2 : ls[q + 1] < (M[k + 1]).2 := hn2
              obtain ⟨_, d1⟩ := ws_cells hmcells hk
              obtain ⟨c0, c1⟩ := ws_cells hmcells hk2
              rw [hM2] at d1
              rw [hF2] at c0
              have d1 := (HBQ.out.cell (p := ⟨mb, mo + k * 2 + 1, none⟩) hmb).trans d1
              have c0 := (HBQ.out.cell (p := ⟨mb, mo + (k + 1) * 2, none⟩) hmb).trans c0
              have c1 := (HBQ.out.cell (p := ⟨mb, mo + (k + 1) * 2 + 1, none⟩) hmb).trans c1
              have HR2 := Lib.hid hR2
              clear hmore1 hmore2 hmcells hM2 hF2 hn1 hm1 hm2 hR2
              generalize (M[k + 1]).2 = u at *
              generalize ls[q + 1] = t at *
              generalize ls[q]'(by omega) = p at *
              have e0 : decide (gap ≤ t - p) = true := decide_eq_true hgp
              have e1 : decide (t < t) = false := decide_eq_false (by omega)
              have e2 : decide (u ≤ t) = false := decide_eq_false (by omega)
              have hkM1 : (k : Int) + 1 < (M.length : Int) := by omega
              go_wp2_with (fail)
              go_quiet (fail)
              have HBQ2 : Hid (Below w3.heap.size w3 (wr.drewN nq)) := Lib.hid (below_drewN HBQ.out nq)
              have c0 : (wr.drewN nq).cell? ⟨mb, mo + (k + 1) * 2, none⟩ = some (.int .i64 t) := c0
              have c1 : (wr.drewN nq).cell? ⟨mb, mo + (k + 1) * 2 + 1, none⟩ = some (.int .i64 u) := c1
              have cp : (wr.drewN nq).cell? ⟨g, q, none⟩ = some (.int .i64 p) := cp
              generalize wr.drewN nq = W at *
              go_wp2_with (fail)
              exact ⟨⟨q + 2, k + 1, by go_num, by go_num, by omega, Lib.hid (.inr HR2.out), HBQ2⟩, by simp [intOf]; omega⟩
            · have hR2 := hmore2 hgp
              have HR2 := Lib.hid hR2
              obtain ⟨_, _, hn1, hn2, _⟩ := runAt_get hgap.1 HSO.out hR2
              have hn1 : (M[k]).1 ≤ ls[q + 1] := hn1
              have hn2 : ls[q + 1] < (M[k]).2 := hn2
              obtain ⟨c0, c1⟩ := ws_cells hmcells hk
              have c0 := (HBQ.out.cell (p := ⟨mb, mo + k * 2, none⟩) hmb).trans c0
              have c1 := (HBQ.out.cell (p := ⟨mb, mo + k * 2 + 1, none⟩) hmb).trans c1
              clear hmore1 hmore2 hmcells hm1 hm2 hR2
              generalize (M[k]).2 = u at *
              generalize (M[k]).1 = f at *
              generalize ls[q + 1] = t at *
              generalize ls[q]'(by omega) = p at *
              have e0 : decide (gap ≤ t - p) = false := decide_eq_false hgp
              have e1 : decide (t < f) = false := decide_eq_false (by omega)
              have e2 : decide (u ≤ t) = false := decide_eq_false (by omega)
              go_wp2_with (fail)
              exact ⟨⟨q + 2, k, rfl, by go_num, by omega, Lib.hid (.inr HR2.out), HBQ⟩, by simp [intOf]; omega⟩
        · obtain rfl : n = ls.length := by omega
          have HBF : Hid (Below w.heap.size w wr) := Lib.hid (HB1.out.trans ((HB3.out.trans (HBQ.out.mono hs3)).mono hs1))
          by_cases hl0 : ls = []
          · subst hl0
            have hM0 : M = [] := HMR.out
            subst hM0
            go_wp2_with (fail)
            refine wp_region_quiet_below (by kernel_rfl) (by kernel_rfl) ?_
            repeat (go_big_quiet_step ((go_at_call 5; exact Wb.call (awake_any _))))
            refine wpQuiet_nil ?_
            rintro _ ⟨⟨wc, HBc⟩, rfl⟩
            go_wp2_with (fail)
            go_ret
            exact ⟨rfl, HBF.out.trans (HBc.mono HBF.out.size)⟩
          · have hlp : 0 < ls.length := List.length_pos_iff.2 hl0
            obtain ⟨HRQ⟩ : Nonempty (Hid (RunAt gap ls M ls.length k)) := by
              rcases HRA.out with ⟨h, _⟩ | h
              · omega
              · exact ⟨Lib.hid h⟩
            obtain ⟨hi1, hk, _, _, hend⟩ := runAt_get hgap.1 HSO.out HRQ.out
            obtain ⟨hk1, hk2⟩ := hend rfl
            rcases own_two HOQ.out with ⟨_, h0, _⟩ | ⟨g, rfl, hlc2, hg2⟩
            · omega
            obtain ⟨q, hq⟩ : ∃ q, ls.length = q + 1 := ⟨ls.length - 1, by omega⟩
            have cp := own_cellI HOQ.out (j := q) (by omega)
            have hpr := HRG.out (ls[q]'(by omega)) (List.getElem_mem (by omega))
            have hk3 : (M[k]).2 = ls[q]'(by omega) + gap := by rw [hk2]; congr 1; simp [hq]
            obtain ⟨mb, mo, rfl, _, hmb, hmcells⟩ := HMC.out (by omega)
            obtain ⟨_, c1⟩ := ws_cells hmcells hk
            rw [hk3] at c1
            have c1 := (HBQ.out.cell (p := ⟨mb, mo + k * 2 + 1, none⟩) hmb).trans c1
            have hmb2 : mb < wr.heap.size := by omega
            clear hmcells hk3 hk2 hend
            generalize ls[q]'(by omega) = p at *
            have HKM := Lib.hid hk1
            clear hk1
            go_wp2_with (fail)
            rw [← HKM.out, hq]
            have w1' : IntKind.i64.wrap ((k : Int) + 1 - 1) = (k : Int) := by rw [IntWalk.i64_in _ (by omega)]; omega
            have w2' : IntKind.i64.wrap ((q : Int) + 1 - 1) = (q : Int) := by rw [IntWalk.i64_in _ (by omega)]; omega
            have w3' : IntKind.i64.wrap (k : Int) = (k : Int) := by rw [IntWalk.i64_in _ (by omega)]
            have w4' : IntKind.i64.wrap (q : Int) = (q : Int) := by rw [IntWalk.i64_in _ (by omega)]
            have w5' : IntKind.i64.wrap (p + gap) = p + gap := by rw [IntWalk.i64_in _ (by omega)]
            have e1 : ((q : Int) + 1 == 0) = false := by simp; omega
            have e2 : decide ((0 : Int) < (q : Int) + 1) = true := decide_eq_true (by omega)
            have e3 : ¬ (q : Int) + 1 = 0 := by omega
            have e4 : (0 : Int) < (q : Int) + 1 := by omega
            have hk0' : (0 : Int) ≤ (k : Int) := by omega
            have hq0' : (0 : Int) ≤ (q : Int) := by omega
            have g0 := Wb.cell c1 hmb2
            have g1 := Wb.cell cp hg2
            clear c1 cp
            refine wp_region_quiet_below (by kernel_rfl) (by kernel_rfl) ?_
            repeat (go_big_quiet_step ((go_at_call 5; exact Wb.call (awake_any _))))
            refine wpQuiet_nil ?_
            rintro _ ⟨⟨wc, HBc⟩, rfl⟩
            go_wp2_with (fail)
            go_ret
            exact ⟨rfl, HBF.out.trans (HBc.mono HBF.out.size)⟩

theorem sess_true (gap : Int) (v : Value) (ts : List Int) (w : World) (h : IsAt w 0 v ts) (hl : ts.length ≤ maxLen) :
    Calls Tryd.prog 3 #[.int .i64 gap, v] w fun e w' => e = .returned (.bool true) ∧ Below w.heap.size w w' := by
  cases hr : rgtB 3 gap 0 0 with
  | false => exact sess_bad gap v w hr
  | true =>
    by_cases h60 : ts.length ≤ 60
    · exact sess_ok gap v ts w h hr h60
    · exact sess_long gap v ts w h hr (by omega) (by unfold maxLen at hl; omega)

end Go.Proofs.YtpkieiahhkgjoaaDoor
