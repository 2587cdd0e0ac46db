/-
Stage 11: leads; GraphAbove.
-/
import Derived.Test.YtllnamhgnbdkmaaGreatDoorYu
import Derived.Test.YtllnamhgnbdkmaaGreatDoorYs
set_option linter.unusedVariables false
set_option linter.unusedSimpArgs false
namespace Go.Proofs.YtllnamhgnbdkmaaGreatDoor
open Go.RowKit Go.Shelf Go.Sort

theorem usersP_len (l : List Gn) (i : Int) : (usersP l i).length ≤ l.length := by
  unfold usersP plF
  rw [List.length_map]
  have := List.length_filter_le (fun k => decide (i ∈ rdAt l k)) (List.range l.length)
  simpa using this
theorem leadP_len (l : List Gn) (e : List Int) : (leadP l e).length ≤ l.length := by
  unfold leadP
  rw [List.length_reverse]
  exact plcs_len l e _
theorem aboveP_len (l : List Gn) (i : Int) : (aboveP l i).length ≤ l.length := by
  unfold aboveP
  split
  · exact leadP_len _ _
  · exact Nat.zero_le _

set_option maxRecDepth 100000 in
set_option maxHeartbeats 4000000 in
theorem leads_any (w : World) (S S2 : Nat → Prop) (d : Nat) (gv lv : Value) (l : List Gn) (lv' : List Int) (i : Int) (hL : GsAt w S d gv l) (hI : IntsAt w S2 lv lv') (hll : lv'.length ≤ 1000000) (hf : FewG l) (hlen : l.length ≤ 1000000) (hG : Gk w) (hck : (chkAll l).2 = 0) (hy : ∃ y ∈ usersP l i, y ∈ lv') :
    Calls Tryz.prog 37 #[.agg #[gv], lv, .int .i64 i] w fun e w' => e = .returned (.bool true) ∧ Below w.heap.size w w' := by
  obtain ⟨GA, gc, rfl⟩ := hL.form
  obtain ⟨LA, lc, rfl⟩ := hI.form
  have HU : Hid (∀ W, Below w.heap.size w W → Calls Tryz.prog 23 #[.agg #[.slice GA l.length gc], .int .i64 i] W fun e w' => (∃ v', e = .returned v' ∧ IntsAt w' (fun b => W.heap.size ≤ b) v' (usersP l i)) ∧ Below W.heap.size W w') := Lib.hid fun W hb => by
    have := users_any W S d _ l i (hL.below hb) hf hlen (hG.below hb)
    unfold okR at this
    rwa [if_pos hck] at this
  have HI := Lib.hid hI
  have hul := usersP_len l i
  obtain ⟨us, hus⟩ : ∃ us, us = usersP l i := ⟨_, rfl⟩
  rw [← hus] at HU hul hy
  have HY := Lib.hid hy
  clear hL hI hG hck hus hy
  go_enter Tryz.func37, Tryz.ntmps37
  go_wp2_with (go_at_call 23; (with_reducible refine (HU.out _ (bl_al (Below.refl _ _) _)).mono ?_); rintro e w1 ⟨⟨v1, rfl, hi1⟩, hb1⟩; obtain ⟨UA, uc, rfl⟩ := hi1.form; have HI1 := Lib.hid hi1; have HB1 := Lib.hid (bl_tr (bl_al (Below.refl _ _) _) hb1); clear hi1 hb1)
  go_loopw [13] (fun iv wr => ∃ j : Nat, iv = .int .i64 (j : Int) ∧ j ≤ us.length ∧ Hid (∃ y ∈ us.drop j, y ∈ lv') ∧ wr = w1) (fun iv _ => us.length - (intOf iv).toNat)
  case atStart => exact ⟨0, rfl, Nat.zero_le _, Lib.hid HY.out, rfl⟩
  case round =>
    obtain ⟨j, rfl, hj, HE, hw⟩ := hrel
    have hw' := hw.symm
    subst hw'
    clear hw
    have hlt : j < us.length := by
      refine Decidable.byContradiction fun hn => ?_
      obtain ⟨y, h1, _⟩ := HE.out
      rw [List.drop_of_length_le (by omega)] at h1
      cases h1
    have hjl : (j : Int) < (us.length : Int) := by omega
    obtain ⟨b, o, rfl, hx, hbl, _⟩ := HI1.out.cell hlt
    have hd : us.drop j = us[j] :: us.drop (j + 1) := List.drop_eq_getElem_cons hlt
    have HD := Lib.hid hd
    clear hd
    generalize us[j] = x at *
    have HH := Lib.hid (has_any w1 S2 _ lv' x (HI.out.move fun b hb hl => ⟨hb, Nat.lt_of_lt_of_le hl HB1.out.size, fun o => World.cell?_of_block (HB1.out.block b hl)⟩) hll)
    by_cases hm : x ∈ lv'
    · have hmb : decide (x ∈ lv') = true := by simp [hm]
      rw [hmb] at HH
      clear hm hmb
      go_wp2_with (go_at_call 36; (with_reducible refine HH.out.mono ?_); rintro e w3 ⟨rfl, rfl⟩)
      go_ret
      exact ⟨rfl, HB1.out⟩
    · have hmb : decide (x ∈ lv') = false := by simp [hm]
      rw [hmb] at HH
      have HE2 : Hid (∃ y ∈ us.drop (j + 1), y ∈ lv') := Lib.hid (by
        obtain ⟨y, h1, h2⟩ := HE.out
        rw [HD.out] at h1
        rcases List.mem_cons.1 h1 with rfl | h1
        · exact absurd h2 hm
        · exact ⟨y, h1, h2⟩)
      clear hm hmb
      go_wp2_with (go_at_call 36; (with_reducible refine HH.out.mono ?_); rintro e w3 ⟨rfl, rfl⟩)
      go_roundw
      case rel => exact ⟨j + 1, by go_num, by omega, HE2, trivial⟩
      case measure => simp [intOf]; omega

theorem own0 {w : World} {B g : Nat} (hg : w.heap[g]? = some (.cells #[] 3 (0, 0))) (hB : B ≤ g) : w.ownsRow B 3 1 (.slice (some ⟨g, 0, none⟩) 0 0) 0 ([].map encZ) :=
  ⟨rfl, .inr ⟨g, 0, #[], rfl, hB, hg, Nat.le_refl _, Nat.zero_le _, rfl, rfl⟩⟩
theorem run_app_ints (w : World) (ty : TypeId) (base : Nat) (v : Value) (l l2 : List Int) (hown : w.ownsRow base 3 1 v l.length (l.map encZ)) (S : Nat → Prop) (vx : Value) (hst : IntsAt w S vx l2) (hlen : l.length + l2.length ≤ 1000000000) (hbase : base ≤ w.heap.size) :
    ∃ v' w', (Builtin.append_ #[41, 41] ty #[v, vx]).run Tryz.prog w = .ok v' w' ∧ w'.ownsRow base 3 1 v' (l ++ l2).length ((l ++ l2).map encZ) ∧ w.grownBy w' v.ownBlock := by
  obtain ⟨i0, hi, hq0, hq1, hq2⟩ := info_parts info3
  obtain ⟨A, c, rfl, hc, hnil, hj⟩ := hst
  rcases A with _ | ad
  · obtain rfl := hnil rfl
    obtain rfl : l2 = [] := List.eq_nil_of_length_eq_zero (by omega)
    exact ⟨_, _, run_append_owned_none (P := Tryz.prog) (w := w) base 41 ty 3 i0 1 Tryz.underlying41 hi v l.length _ hown, by simpa using hown, ⟨rfl, rfl, rfl, Nat.le_refl _, fun _ _ _ => rfl⟩⟩
  · obtain ⟨v', w', hr, h1, h2, _, _⟩ := run_append_own_at (P := Tryz.prog) w base 41 ty 3 i0 (.int .i64 0) 1 8 Tryz.underlying41 hi hq0 hq1 hq2 rfl (by decide) v l.length (l.map encZ) hown ad l2.length c (l2.map encZ) (by simp) (fun j u hu => by
      rw [List.getElem?_map, Option.map_eq_some_iff] at hu
      obtain ⟨y, hy, rfl⟩ := hu
      obtain ⟨b, o', e, _, _, hk⟩ := hj (by have := (List.getElem?_eq_some_iff.1 hy).1; omega)
      obtain rfl := Option.some.inj e
      rw [addr_add]
      exact hk j y hy) (fun u hu => by
      obtain ⟨y, _, rfl⟩ := List.mem_map.1 hu
      rfl) (by unfold maxLen; omega) (by omega) hbase
    exact ⟨v', w', hr, by rw [List.length_append, List.map_append]; exact h1, h2⟩
theorem step_app_ints {w : World} {ops : Array Oper} {o : Oper} {a : Act} {K : Act → World → Prop} {Q : Exit → Act → World → Prop} {E : Prop} (hgd : o.guard = none) (s x : Operand)
    (ho : o.op = .call { callee := .builtin .append, args := #[s, x], argTypes := #[41, 41] }) (base : Nat) (v : Value) (l l2 : List Int) (hs : a.eval s = v) (hown : w.ownsRow base 3 1 v l.length (l.map encZ)) (S : Nat → Prop) (vx : Value) (hx : a.eval x = vx) (hst : IntsAt w S vx l2) (hlen : l.length + l2.length ≤ 1000000000) (hbase : base ≤ w.heap.size)
    (h : ∀ v' w', w'.ownsRow base 3 1 v' (l ++ l2).length ((l ++ l2).map encZ) → w.grownBy w' v.ownBlock → K (a.put o.dst v') w') :
    if Region.wanted o (yielded ops a.tmps) = true then Oper.wp Tryz.prog o a w K Q else E := by
  have hw : Region.wanted o (yielded ops a.tmps) = true := by simp [Region.wanted, hgd]
  rw [if_pos hw]
  obtain ⟨v', w', hr, h1, h2⟩ := run_app_ints w o.type base v l l2 hown S vx hst hlen hbase
  unfold Oper.wp execOp
  simp only [ho, resolve, invoke, builtin, Sem.run_bind, Sem.run_pure, Result.andThen_ok, List.map_toArray, List.map_cons, List.map_nil, hs, hx, hr]
  exact h v' w' h1 h2

set_option maxRecDepth 100000 in
set_option maxHeartbeats 8000000 in
theorem aboves_any (w : World) (S : Nat → Prop) (d : Nat) (v : Value) (l : List Gn) (h : GsAt w S d v l) (hl : l.length ≤ 9223372036854775807) (hr : ∀ n ∈ l, GnR n) (hG : Gk w) :
    Calls Tryz.prog 7 #[v] w fun e w' => e = .returned (.bool true) ∧ Below w.heap.size w w' := by
  obtain ⟨GA, gc, rfl⟩ := h.form
  have HAW : Hid (∀ W, Below w.heap.size w W → Calls Tryz.prog 11 #[] W fun e w' => e = .returned (.bool true) ∧ Below W.heap.size W w') := Lib.hid fun W hb => awake_any placesOf_any placesP_ok.two W (hG.below hb)
  have HSL := Lib.hid (small_any w S d _ l h hl)
  have H := Lib.hid h
  have HR := Lib.hid hr
  have HG := Lib.hid hG
  clear h hr hG
  go_enter Tryz.func7, Tryz.ntmps7
  go_wp2_with (fail)
  refine HSL.out.mono ?_
  rintro e w1 ⟨⟨b, rfl, hsm⟩, hb1⟩
  have HB1 := Lib.hid hb1
  have hb1s := hb1.size
  cases b with
  | false =>
    clear hsm hb1
    go_wp2_with (go_at_call 11; (with_reducible refine (HAW.out _ HB1.out).mono ?_); rintro e w9 ⟨rfl, hb9⟩; have HB9 := Lib.hid (HB1.out.trans (hb9.mono HB1.out.size)); clear hb9)
    go_ret
    exact ⟨rfl, HB9.out⟩
  | true =>
    obtain ⟨hl100, hsn⟩ := hsm rfl
    have HSN := Lib.hid hsn
    clear hsm hsn hb1
    have HP1 : Hid (Calls Tryz.prog 12 #[.slice GA l.length gc] w1 fun e w' => (∃ v', e = .returned (.agg #[v']) ∧ GsAt w' (fun b => w1.heap.size ≤ b) d v' l) ∧ Below w1.heap.size w1 w') := Lib.hid (pipe_any w1 S d _ l (H.out.move fun b hb hl => ⟨hb, Nat.lt_of_lt_of_le hl hb1s, fun o => World.cell?_of_block (HB1.out.block b hl)⟩) hl100 HSN.out)
    have hfew : FewG l := fun n hn => by have := HSN.out n hn; have h1 := this.ins; have h2 := this.side; omega
    have HFEW := Lib.hid hfew
    have HCK : Hid (∀ W S v, GsAt W S d v l → Below w.heap.size w W → Calls Tryz.prog 13 #[.agg #[v]] W fun e w' => e = .returned (.tuple #[.int .i64 ((chkAll l).1 : Int), .int .i64 (chkAll l).2]) ∧ Below W.heap.size W w') := Lib.hid fun W S v hg hb => checkAll_any W S d v l hg HFEW.out (by omega) (HG.out.below hb)
    clear hfew
    by_cases hck : (chkAll l).2 = 0
    · obtain ⟨hok, hck2⟩ := okG hck
      rw [hck] at HCK
      have HOK := Lib.hid hok
      clear hok hck2
      go_wp2_with (first
        | (go_at_call 12; (with_reducible refine HP1.out.mono ?_); rintro e w2 ⟨⟨v2, rfl, hg2⟩, hb2⟩; obtain ⟨PA, pc, rfl⟩ := hg2.form; have HG2 := Lib.hid hg2; have HB2 := Lib.hid (HB1.out.trans (hb2.mono hb1s)); clear hg2 hb2)
        | (go_at_call 13; (with_reducible refine (HCK.out _ _ _ (HG2.out.below (bl_al (Below.refl _ _) _)) (HB2.out.alloc HB2.out.size _)).mono ?_); rintro e w3 ⟨rfl, hb3⟩; have HB3 := Lib.hid hb3; clear hb3)
        | fail)
      have hx3 := bl_blk HB3.out (heap_alloc_new w2 _)
      have hB23 : Below w2.heap.size w2 w3 := bl_tr (bl_al (Below.refl _ _) _) HB3.out
      have HBW : Hid (Below w.heap.size w w3) := Lib.hid (HB2.out.trans (hB23.mono HB2.out.size))
      have HG3 : Hid (∀ W, Below w3.heap.size w3 W → GsAt W (fun b => w1.heap.size ≤ b) d (.slice PA l.length pc) l) := Lib.hid fun W hb => (HG2.out.below hB23).below hb
      have HGW : Hid (∀ W, Below w3.heap.size w3 W → Gk W) := Lib.hid fun W hb => HG.out.below (HBW.out.trans (hb.mono HBW.out.size))
      have HX3 := Lib.hid hx3
      have hs3 := HBW.out.size
      have HL3 : Hid (∀ W, Below w3.heap.size w3 W → GsAt W S d (.slice GA l.length gc) l) := Lib.hid fun W hb => H.out.move fun b hb' hl => ⟨hb', Nat.lt_of_lt_of_le hl (Nat.le_trans hs3 hb.size), fun o => World.cell?_of_block ((HBW.out.trans (hb.mono hs3)).block b hl)⟩
      have HAB : Hid (∀ (W : World) (i : Int), Below w3.heap.size w3 W → Calls Tryz.prog 24 #[.agg #[.slice PA l.length pc], .int .i64 i] W fun e w' => (∃ v', e = .returned v' ∧ IntsAt w' (fun b => W.heap.size ≤ b) v' (aboveP l i)) ∧ Below W.heap.size W w') := Lib.hid fun W i hb => by
        have := above_any W _ d _ l i (HG3.out W hb) HFEW.out (by omega) (HGW.out W hb)
        unfold okR at this
        rwa [if_pos hck] at this
      have HUS : Hid (∀ (W : World) (i : Int), Below w3.heap.size w3 W → Calls Tryz.prog 23 #[.agg #[.slice PA l.length pc], .int .i64 i] W fun e w' => (∃ v', e = .returned v' ∧ IntsAt w' (fun b => W.heap.size ≤ b) v' (usersP l i)) ∧ Below W.heap.size W w') := Lib.hid fun W i hb => by
        have := users_any W _ d _ l i (HG3.out W hb) HFEW.out (by omega) (HGW.out W hb)
        unfold okR at this
        rwa [if_pos hck] at this
      have HLV : Hid (∀ (W : World), Below w3.heap.size w3 W → Calls Tryz.prog 25 #[.agg #[.slice PA l.length pc]] W fun e w' => (∃ v', e = .returned v' ∧ IntsAt w' (fun b => W.heap.size ≤ b) v' (liveP l)) ∧ Below W.heap.size W w') := Lib.hid fun W hb => by
        have := live_any W _ d _ l (HG3.out W hb) HFEW.out (by omega) (HGW.out W hb)
        unfold okR at this
        rwa [if_pos hck] at this
      have HCKZ := Lib.hid hck
      clear hx3 hB23 hck
      go_loopw [33] (fun iv wr => ∃ i : Nat, iv = .int .i64 (i : Int) ∧ i ≤ l.length ∧ Hid (Below w3.heap.size w3 wr)) (fun iv _ => l.length - (intOf iv).toNat)
      case atStart => exact ⟨0, rfl, Nat.zero_le _, Lib.hid (Below.refl _ _)⟩
      case round =>
        obtain ⟨i, rfl, hi, HBR⟩ := hrel
        rename World => wo
        have hpx := cellN (i := 0) (x := .slice PA l.length pc) (bl_blk HBR.out HX3.out) rfl
        have hbrs := HBR.out.size
        by_cases hlt : i < l.length
        · have hil : (i : Int) < (l.length : Int) := by omega
          have HOKA := Lib.hid (above_ok HOK.out hlt)
          have HRDA := Lib.hid (reads_ok HOK.out hlt)
          have hat := (HL3.out wo HBR.out).at hlt
          have hrd : rdAt l i = l[i].ins ++ l[i].side := by unfold rdAt; rw [List.getElem?_eq_getElem hlt]; rfl
          have hsm := HSN.out _ (List.getElem_mem hlt)
          have HALE := Lib.hid (aboveP_len l (i : Int))
          generalize l[i] = n at *
          obtain ⟨b, o, rfl, hbl, _, IA, SA, A, ic, sc, c, hN, _, a1, a2, _⟩ := hat
          have hgi : IntsAt wo S (.slice IA n.ins.length ic) n.ins ∧ IntsAt wo S (.slice SA n.side.length sc) n.side := by
            obtain ⟨_, _, _, _, _, _, e, h1, h2, h3⟩ := hN
            unfold Gn.val at e
            injection e with e
            simp only [Array.mk.injEq, List.cons.injEq, Value.slice.injEq, and_true, true_and] at e
            obtain ⟨⟨rfl, rfl⟩, ⟨rfl, rfl⟩, rfl, rfl⟩ := e
            exact ⟨h1, h2⟩
          have HGI := Lib.hid hgi
          have HSM := Lib.hid hsm
          have HA1 := Lib.hid a1
          have HA2 := Lib.hid a2
          obtain ⟨rd, hre⟩ : ∃ rd, rd = n.ins ++ n.side := ⟨_, rfl⟩
          rw [hrd, ← hre] at HRDA
          have HRE := Lib.hid hre
          obtain ⟨up, hup⟩ : ∃ up, up = aboveP l (i : Int) := ⟨_, rfl⟩
          have HAI := Lib.hid (HAB.out wo (i : Int) HBR.out)
          rw [← hup] at HAI HOKA HRDA HALE
          have hupl : up.length ≤ 100 := by have := HALE.out; omega
          clear hgi hsm hrd hre a1 a2 hN hup
          go_wp2_with (go_at_call 24; (with_reducible refine HAI.out.mono ?_); rintro e w4 ⟨⟨v4, rfl, hi4⟩, hb4⟩; obtain ⟨UA, uc, rfl⟩ := hi4.form; have HI4 := Lib.hid hi4; have HB4 := Lib.hid hb4; clear hi4 hb4)
          have hs4 := HB4.out.size
          go_loopw [41] (fun iv wq => ∃ j : Nat, iv = .int .i64 (j : Int) ∧ j ≤ up.length ∧ Hid (Below w4.heap.size w4 wq)) (fun iv _ => up.length - (intOf iv).toNat)
          case atStart => exact ⟨0, rfl, Nat.zero_le _, Lib.hid (Below.refl _ _)⟩
          case round =>
            obtain ⟨j, rfl, hj, HBQ⟩ := hrel
            rename World => wq
            have hb34 : Below w3.heap.size w3 w4 := HBR.out.trans (HB4.out.mono hbrs)
            have hb3q : Below w3.heap.size w3 wq := hb34.trans (HBQ.out.mono hb34.size)
            have HB3Q := Lib.hid hb3q
            have HIU := Lib.hid (HI4.out.below HBQ.out)
            have hpx := cellN (i := 0) (x := .slice PA l.length pc) (bl_blk hb3q HX3.out) rfl
            have hqs := HBQ.out.size
            clear hb34 hb3q
            by_cases hjl : j < up.length
            · have hjlt : (j : Int) < (up.length : Int) := by omega
              obtain ⟨b7, o7, hUA, hx7, hbl7, _⟩ := HIU.out.cell hjl
              subst hUA
              obtain ⟨hx0, hxi, hall⟩ := HOKA.out _ (List.getElem_mem hjl)
              have HAE := Lib.hid (aboveP_len l up[j])
              generalize up[j] = x at *
              have HALL := Lib.hid hall
              have hg1 : ¬ ((i : Int) ≤ x) := by omega
              have hg2 : ¬ (x < 0) := by omega
              have HAX := Lib.hid (HAB.out wq x HB3Q.out)
              obtain ⟨ax, hax⟩ : ∃ ax, ax = aboveP l x := ⟨_, rfl⟩
              rw [← hax] at HAX HALL HAE
              have haxl : ax.length ≤ 100 := by have := HAE.out; omega
              clear hall hax
              go_wp2_with (go_at_call 24; (with_reducible refine HAX.out.mono ?_); rintro e w5 ⟨⟨v5, rfl, hi5⟩, hb5⟩; obtain ⟨XA, xc, rfl⟩ := hi5.form; have HI5 := Lib.hid hi5; have HB5 := Lib.hid hb5; clear hi5 hb5)
              have hs5 := HB5.out.size
              have HHAS : Hid (∀ y, y ∈ ax → Calls Tryz.prog 36 #[.slice (some ⟨b7, o7, none⟩) up.length uc, .int .i64 y] w5 fun e w' => e = .returned (.bool true) ∧ w5 = w') := Lib.hid fun y hy => by
                have := has_any w5 _ _ up y (HIU.out.below HB5.out) (by have := HALE.out; omega)
                rwa [decide_eq_true (HALL.out y hy)] at this
              go_loopw [56] (fun iv wv => ∃ m : Nat, iv = .int .i64 (m : Int) ∧ m ≤ ax.length ∧ wv = w5) (fun iv _ => ax.length - (intOf iv).toNat)
              case atStart => exact ⟨0, rfl, Nat.zero_le _, rfl⟩
              case round =>
                obtain ⟨m, rfl, hm, hw⟩ := hrel
                have hw' := hw.symm
                subst hw'
                clear hw
                by_cases hml : m < ax.length
                · have hmlt : (m : Int) < (ax.length : Int) := by omega
                  obtain ⟨b8, o8, hXA, hx8, hbl8, _⟩ := HI5.out.cell hml
                  subst hXA
                  have HY := Lib.hid (HHAS.out _ (List.getElem_mem hml))
                  generalize ax[m] = y at *
                  go_wp2_with (go_at_call 36; (with_reducible refine HY.out.mono ?_); rintro e w6 ⟨rfl, rfl⟩)
                  go_roundw
                  case rel => exact ⟨m + 1, by go_num, by omega, trivial⟩
                  case measure => simp [intOf]; omega
                · have hmlt : ¬ (m : Int) < (ax.length : Int) := by omega
                  have HB9 : Hid (Below w4.heap.size w4 w5) := Lib.hid (HBQ.out.trans (HB5.out.mono hqs))
                  go_wp2_with (fail)
                  go_roundw
                  case rel => exact ⟨j + 1, by go_num, by omega, HB9⟩
                  case measure => simp [intOf]; omega
            · have hjlt : ¬ (j : Int) < (up.length : Int) := by omega
              have hbwo : Below wo.heap.size wo wq := HB4.out.trans (HBQ.out.mono hs4)
              have HBWO := Lib.hid hbwo
              have e1 : wq.cell? ⟨b, o + i * 14 + 1, none⟩ = some (.slice IA n.ins.length ic) := (hbwo.cell (p := ⟨b, o + i * 14 + 1, none⟩) hbl).trans HA1.out
              have e2 : wq.cell? ⟨b, o + i * 14 + 2, none⟩ = some (.slice SA n.side.length sc) := (hbwo.cell (p := ⟨b, o + i * 14 + 2, none⟩) hbl).trans HA2.out
              have HE1 := Lib.hid e1
              have HE2 := Lib.hid e2
              have ebl : b < wq.heap.size := Nat.lt_of_lt_of_le hbl hbwo.size
              have HT1 : Hid (∀ W, Below wq.heap.size wq W → IntsAt W S (.slice IA n.ins.length ic) n.ins) := Lib.hid fun W hb => (HGI.out.1.below HBWO.out).below hb
              have HT2 : Hid (∀ W, Below wq.heap.size wq W → IntsAt W S (.slice SA n.side.length sc) n.side) := Lib.hid fun W hb => (HGI.out.2.below HBWO.out).below hb
              have hi0 : (0 : Int) ≤ (i : Int) := by omega
              have hRR : Below wq.heap.size wq wq := Below.refl _ _
              clear hbwo
              go_wp2_with (fail)
              go_region_held3 (fun w' => w'.cell? ⟨b, o + i * 14 + 1, none⟩ = some (.slice IA n.ins.length ic) ∧ w'.cell? ⟨b, o + i * 14 + 2, none⟩ = some (.slice SA n.side.length sc) ∧ Below wq.heap.size wq w')
                ((refine ⟨?_, ?_, ?_⟩ <;> (repeat' (first | with_reducible assumption | with_reducible refine cell_drew_some ?_ | with_reducible refine Below.drew ?_ | with_reducible refine cell_alloc_some ?_ | with_reducible refine bl_al ?_ _))))
                (first
                | (refine step_app_ints (by rfl) _ _ (by rfl) wq.heap.size (.slice (some ⟨wq.heap.size, 0, none⟩) 0 0) [] n.ins (by rfl) (own0 (heap_alloc_new _ _) (Nat.le_refl _)) S _ (by rfl) (HT1.out _ (bl_al (bl_dr (Below.refl _ _)) _)) (by have := HSM.out.ins; simp; omega) (by simp) ?_; intro v7 w7 hown7 hg7; rw [List.nil_append] at hown7; have HOW7 := Lib.hid hown7; have HB7 : Below wq.heap.size wq w7 := (bl_al (bl_dr (Below.refl wq.heap.size wq)) _).grown hg7 (by simp) (fun k hk => by have := Option.some.inj hk; simp at this; omega); have e1 := (World.cell?_of_block (a := ⟨b, o + i * 14 + 1, none⟩) (HB7.block b ebl)).trans HE1.out; have e2 := (World.cell?_of_block (a := ⟨b, o + i * 14 + 2, none⟩) (HB7.block b ebl)).trans HE2.out; clear hown7 hg7)
                | (have hs7 := HB7.size; refine step_app_ints (by rfl) _ _ (by rfl) wq.heap.size v7 n.ins n.side (by rfl) HOW7.out S _ (by rfl) (HT2.out _ HB7) (by have := HSM.out.ins; have := HSM.out.side; omega) hs7 ?_; intro v8 w8 hown8 hg8; rw [← HRE.out] at hown8; obtain ⟨VA, vc, rfl⟩ := own_slice hown8; have HOW8 := Lib.hid hown8; have HB8 : Below wq.heap.size wq w8 := HB7.grown hg8 hs7 (fun k hk => (HOW7.out.lt k hk).1); have e1 := (World.cell?_of_block (a := ⟨b, o + i * 14 + 1, none⟩) (HB8.block b ebl)).trans HE1.out; have e2 := (World.cell?_of_block (a := ⟨b, o + i * 14 + 2, none⟩) (HB8.block b ebl)).trans HE2.out; clear hown8 hg8))
              have hb38 : Below w3.heap.size w3 w8 := HB3Q.out.trans (HB8.mono HB3Q.out.size)
              have HB38 := Lib.hid hb38
              have hs8 := hb38.size
              have HIR : Hid (IntsAt w8 (fun b => wq.heap.size ≤ b) (.slice VA rd.length vc) rd) := Lib.hid (IntsAt.of_own HOW8.out)
              have hrdl : rd.length ≤ 200 := by have := HSM.out.ins; have := HSM.out.side; rw [HRE.out, List.length_append]; omega
              have HUP8 := Lib.hid (HIU.out.below HB8)
              clear hb38 HB8 HB7 e1 e2
              go_wp2_with (fail)
              go_loopw [80] (fun iv wv => ∃ m : Nat, iv = .int .i64 (m : Int) ∧ m ≤ rd.length ∧ Hid (Below w8.heap.size w8 wv)) (fun iv _ => rd.length - (intOf iv).toNat)
              case atStart => exact ⟨0, rfl, Nat.zero_le _, Lib.hid (Below.refl _ _)⟩
              case round =>
                obtain ⟨m, rfl, hm, HBV⟩ := hrel
                rename World => wv
                have hb3v : Below w3.heap.size w3 wv := HB38.out.trans (HBV.out.mono hs8)
                have HB3V := Lib.hid hb3v
                have hvs := HBV.out.size
                have hpx := cellN (i := 0) (x := .slice PA l.length pc) (bl_blk hb3v HX3.out) rfl
                clear hb3v
                by_cases hml : m < rd.length
                · have hmlt : (m : Int) < (rd.length : Int) := by omega
                  obtain ⟨b9, o9, hVA, hx9, hbl9, _⟩ := (HIR.out.below HBV.out).cell hml
                  subst hVA
                  obtain ⟨hu1, hu2⟩ := HRDA.out _ (List.getElem_mem hml)
                  generalize rd[m] = y at *
                  have HUI := Lib.hid hu2
                  have hh1 := has_any wv _ _ up y (HUP8.out.below HBV.out) (by omega)
                  rw [decide_eq_true hu1] at hh1
                  have HH1 := Lib.hid hh1
                  have HUY := Lib.hid (HUS.out wv y HB3V.out)
                  have husl := usersP_len l y
                  obtain ⟨us, hus⟩ : ∃ us, us = usersP l y := ⟨_, rfl⟩
                  rw [← hus] at HUY HUI husl
                  have hus2 : us.length ≤ 1000000 := by omega
                  clear hu1 hu2 hh1 hus
                  go_wp2_with (first
                    | (go_at_call 23; (with_reducible refine HUY.out.mono ?_); rintro e wu ⟨⟨v10, rfl, hi10⟩, hb10⟩; obtain ⟨UU, ucc, rfl⟩ := hi10.form; have hh2 := has_any wu _ _ us (i : Int) hi10 hus2; rw [decide_eq_true HUI.out] at hh2; have HH2 := Lib.hid hh2; have HB10 := Lib.hid (HBV.out.trans (hb10.mono hvs)); clear hi10 hb10 hh2)
                    | (go_at_call 36; (with_reducible refine HH1.out.mono ?_); rintro e w6 ⟨rfl, rfl⟩)
                    | (go_at_call 36; (with_reducible refine HH2.out.mono ?_); rintro e w6 ⟨rfl, rfl⟩)
                    | fail)
                  go_roundw
                  case rel => exact ⟨m + 1, by go_num, by omega, HB10⟩
                  case measure => simp [intOf]; omega
                · have hmlt : ¬ (m : Int) < (rd.length : Int) := by omega
                  go_wp2_with (fail)
                  go_roundw
                  case rel => exact ⟨i + 1, by go_num, by omega, HB3V⟩
                  case measure => simp [intOf]; omega
        · obtain rfl : i = l.length := by omega
          have hil : ¬ (l.length : Int) < (l.length : Int) := by omega
          have HLIV := Lib.hid (HLV.out wo HBR.out)
          have hlvl : (liveP l).length ≤ 100 := by have := leadP_len l (sinksP l); unfold liveP; omega
          have HLOK := Lib.hid (live_ok HOK.out)
          have HUN := Lib.hid (users_none HOK.out)
          obtain ⟨lv, hlv⟩ : ∃ lv, lv = liveP l := ⟨_, rfl⟩
          rw [← hlv] at HLIV hlvl HLOK
          clear hlv
          go_wp2_with (go_at_call 25; (with_reducible refine HLIV.out.mono ?_); rintro e w4 ⟨⟨v4, rfl, hi4⟩, hb4⟩; obtain ⟨LA, lc, rfl⟩ := hi4.form; have HI4 := Lib.hid hi4; have HB4 := Lib.hid (HBR.out.trans (hb4.mono hbrs)); clear hi4 hb4)
          have hs4 := HB4.out.size
          go_loopw [102] (fun iv wv => ∃ m : Nat, iv = .int .i64 (m : Int) ∧ m ≤ lv.length ∧ Hid (Below w4.heap.size w4 wv)) (fun iv _ => lv.length - (intOf iv).toNat)
          case atStart => exact ⟨0, rfl, Nat.zero_le _, Lib.hid (Below.refl _ _)⟩
          case round =>
            obtain ⟨m, rfl, hm, HBV⟩ := hrel
            rename World => wv
            have hb3v : Below w3.heap.size w3 wv := HB4.out.trans (HBV.out.mono hs4)
            have HB3V := Lib.hid hb3v
            have hvs := HBV.out.size
            have hpx := cellN (i := 0) (x := .slice PA l.length pc) (bl_blk hb3v HX3.out) rfl
            have HLL := Lib.hid (HI4.out.below HBV.out)
            clear hb3v
            by_cases hml : m < lv.length
            · have hmlt : (m : Int) < (lv.length : Int) := by omega
              obtain ⟨b9, o9, hVA, hx9, hbl9, _⟩ := HLL.out.cell hml
              subst hVA
              obtain ⟨k, hyk, hkl, hor⟩ := HLOK.out _ (List.getElem_mem hml)
              rw [hyk] at hx9 hor
              clear hyk
              have hat := (HL3.out wv HB3V.out).at hkl
              have hkl' : (k : Int) < (l.length : Int) := by omega
              have hk0 : (0 : Int) ≤ (k : Int) := by omega
              have hsb : sinkB l k = (l[k].op == 6) := by unfold sinkB; rw [List.getElem?_eq_getElem hkl]
              generalize l[k] = n at *
              obtain ⟨b, o, rfl, hbl, _, IA, SA, A, ic, sc, c, hN, a0, _⟩ := hat
              by_cases h6 : n.op = 6
              · have h6b : (n.op != 6) = false := by simp [h6]
                have h6c : (n.op == 6) = true := by simp [h6]
                clear hor hsb h6 hN
                go_wp2_with (fail)
                go_roundw
                case rel => exact ⟨m + 1, by go_num, by omega, HBV⟩
                case measure => simp [intOf]; omega
              · have h6b : (n.op != 6) = true := by simp [h6]
                have h6c : (n.op == 6) = false := by simp [h6]
                have hz : ∃ z ∈ usersP l (k : Int), z ∈ lv := by
                  rcases hor with h | h
                  · rw [hsb, h6c] at h; cases h
                  · exact h
                have HLE := Lib.hid (leads_any wv _ _ d _ _ l lv (k : Int) (HG3.out wv HB3V.out) HLL.out (by omega) HFEW.out (by omega) (HGW.out wv HB3V.out) HCKZ.out hz)
                clear hor hsb h6 hN hz
                go_wp2_with (go_at_call 37; (with_reducible refine HLE.out.mono ?_); rintro e w6 ⟨rfl, hb6⟩; have HB6 := Lib.hid (HBV.out.trans (hb6.mono hvs)); clear hb6)
                go_roundw
                case rel => exact ⟨m + 1, by go_num, by omega, HB6⟩
                case measure => simp [intOf]; omega
            · have hmlt : ¬ (m : Int) < (lv.length : Int) := by omega
              have HU1 := Lib.hid (HUS.out wv (-1) HB3V.out)
              rw [HUN.out] at HU1
              have HA1 : Hid (∀ W, Below w3.heap.size w3 W → Calls Tryz.prog 24 #[.agg #[.slice PA l.length pc], .int .i64 (l.length : Int)] W fun e w' => (∃ v', e = .returned v' ∧ IntsAt w' (fun b => W.heap.size ≤ b) v' []) ∧ Below W.heap.size W w') := Lib.hid fun W hb => by
                have := HAB.out W (l.length : Int) hb
                rwa [aboveP_out (by omega)] at this
              go_wp2_with (first
                | (go_at_call 23; (with_reducible refine HU1.out.mono ?_); rintro e wu ⟨⟨v10, rfl, hi10⟩, hb10⟩; obtain ⟨UU, ucc, hvu⟩ := hi10.form; (obtain rfl : v10 = .slice UU 0 ucc := hvu); have HB10 := Lib.hid (HB3V.out.trans (hb10.mono HB3V.out.size)); have hpx2 := cellN (i := 0) (x := .slice PA l.length pc) (bl_blk HB10.out HX3.out) rfl; clear hi10 hb10)
                | (go_at_call 24; (with_reducible refine (HA1.out _ HB10.out).mono ?_); rintro e wa ⟨⟨v11, rfl, hi11⟩, hb11⟩; obtain ⟨UA, uac, hva⟩ := hi11.form; (obtain rfl : v11 = .slice UA 0 uac := hva); have HB11 := Lib.hid (HB10.out.trans (hb11.mono HB10.out.size)); clear hi11 hb11)
                | (go_at_call 11; (with_reducible refine (HAW.out _ (HBW.out.trans (HB11.out.mono HBW.out.size))).mono ?_); rintro e w9 ⟨rfl, hb9⟩; have HB9 := Lib.hid ((HBW.out.trans (HB11.out.mono HBW.out.size)).trans (hb9.mono (HBW.out.trans (HB11.out.mono HBW.out.size)).size)); clear hb9)
                | fail)
              go_ret
              exact ⟨rfl, HB9.out⟩
    · have hce : ((chkAll l).2 != 0) = true := by simp [hck]
      have hce2 : ((chkAll l).2 == 0) = false := by simp [hck]
      generalize (chkAll l).2 = ce at *
      clear hck
      go_wp2_with (first
        | (go_at_call 12; (with_reducible refine HP1.out.mono ?_); rintro e w2 ⟨⟨v2, rfl, hg2⟩, hb2⟩; obtain ⟨PA, pc, rfl⟩ := hg2.form; have HG2 := Lib.hid hg2; have HB2 := Lib.hid (HB1.out.trans (hb2.mono hb1s)); clear hg2 hb2)
        | (go_at_call 13; (with_reducible refine (HCK.out _ _ _ (HG2.out.below (bl_al (Below.refl _ _) _)) (HB2.out.alloc HB2.out.size _)).mono ?_); rintro e w3 ⟨rfl, hb3⟩; have HB3 := Lib.hid ((HB2.out.alloc HB2.out.size _).trans (hb3.mono (HB2.out.alloc HB2.out.size _).size)); clear hb3)
        | (go_at_call 11; (with_reducible refine (HAW.out _ HB3.out).mono ?_); rintro e w9 ⟨rfl, hb9⟩; have HB9 := Lib.hid (HB3.out.trans (hb9.mono HB3.out.size)); clear hb9)
        | fail)
      go_ret
      exact ⟨rfl, HB9.out⟩

end Go.Proofs.YtllnamhgnbdkmaaGreatDoor
