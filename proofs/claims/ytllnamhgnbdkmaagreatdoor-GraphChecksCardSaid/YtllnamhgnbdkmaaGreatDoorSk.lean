/-
Stage 11: GraphChecks: the rows that it gathers. Stage 11: GraphChecks.
-/
import Derived.Test.YtllnamhgnbdkmaaGreatDoorSi
import Derived.Test.YtllnamhgnbdkmaaGreatDoorSf
import Derived.Test.YtllnamhgnbdkmaaGreatDoorSb
import Derived.Test.YtllnamhgnbdkmaaGreatDoorRd
import Derived.Test.YtllnamhgnbdkmaaGreatDoorYs
set_option linter.unusedVariables false
set_option linter.unusedSimpArgs false
namespace Go.Proofs.YtllnamhgnbdkmaaGreatDoor
open Go.RowKit Go.Shelf Go.Sort

set_option maxRecDepth 100000 in
set_option maxHeartbeats 1000000 in
theorem raboveI_any (w : World) (S : Nat → Prop) (d : Nat) (gv : Value) (l : List Gn) (k : Nat) (i : Int) (hL : GsAt w S d gv l) (h : OkG l) (hk : k < l.length) :
    Calls Tryz.prog 21 #[gv, .int .i64 (k : Int), .int .i64 i] w fun e w' => e = .returned (.bool (abB l i k)) ∧ Below w.heap.size w w' := by
  by_cases hi : 0 ≤ i ∧ i < (l.length : Int)
  · obtain ⟨m, rfl⟩ : ∃ m : Nat, i = (m : Int) := ⟨i.toNat, by omega⟩
    have := rabove_any w S d gv l k m hL (fun n hn => by have := h.fewG n hn; omega) (by omega) hk h.few (fun x hx hf => above_lt h m _ x (Nat.le_refl _) hx hf)
    unfold abB
    rw [decide_eq_true hi, Bool.true_and, Int.toNat_natCast]
    exact this
  · have HE : Hid (abB l i k = false) := Lib.hid (by unfold abB; rw [decide_eq_false hi]; rfl)
    obtain ⟨GA, gc, rfl⟩ := hL.form
    by_cases hi0 : i < 0
    · clear hi
      go_enter Tryz.func21, Tryz.ntmps21
      go_wp2_with (fail)
      go_ret
      rw [HE.out]
      exact ⟨rfl, Below.refl _ _⟩
    · have hi1 : (l.length : Int) ≤ i := by omega
      clear hi
      go_enter Tryz.func21, Tryz.ntmps21
      go_wp2_with (fail)
      go_ret
      rw [HE.out]
      exact ⟨rfl, Below.refl _ _⟩

/-- Rows of their own that share nothing. -/
def Ap (a b : Value) : Prop := a.ownBlock = none ∨ b.ownBlock = none ∨ a.ownBlock ≠ b.ownBlock
theorem Ap.sym {a b : Value} (h : Ap a b) : Ap b a := by
  rcases h with h | h | h
  · exact .inr (.inl h)
  · exact .inl h
  · exact .inr (.inr (Ne.symm h))
theorem Ap.ne {a b : Value} (h : Ap a b) : b.ownBlock = none ∨ b.ownBlock ≠ a.ownBlock ∨ a.ownBlock = none := by
  rcases h with h | h | h
  · exact .inr (.inr h)
  · exact .inl h
  · exact .inr (.inl (Ne.symm h))
def RowI (W : World) (B : Nat) (v : Value) (l : List Int) : Prop := W.ownsRow B 3 1 v l.length (l.map (Value.int .i64))
theorem RowI.side {W W' : World} {B : Nat} {v v' z : Value} {y : List Int} (hz : RowI W B z y) (ap : Ap v z) (hg : W.grownBy W' v.ownBlock) (hat : v'.ownBlock = v.ownBlock ∨ v'.ownBlock = some W.heap.size) : RowI W' B z y ∧ Ap v' z := by
  have hne : z.ownBlock = none ∨ z.ownBlock ≠ v.ownBlock := by
    rcases ap.ne with h | h | h
    · exact .inl h
    · exact .inr h
    · cases hz' : z.ownBlock with
      | none => exact .inl rfl
      | some g => exact .inr (by rw [h]; simp)
  refine ⟨World.ownsRow.kept hz hg hne, ?_⟩
  rcases hat with h | h
  · unfold Ap
    rw [h]
    exact ap
  · cases hz' : z.ownBlock with
    | none => exact .inr (.inl hz')
    | some g =>
      refine .inr (.inr ?_)
      have := (World.ownsRow.lt hz g hz').2
      rw [h, hz']
      intro e
      have := Option.some.inj e
      omega
theorem RowI.keep {W W' : World} {B : Nat} {v : Value} {y : List Int} (h : RowI W B v y) (hb : Below W.heap.size W W') : RowI W' B v y :=
  World.ownsRow.kept (row := none) h ⟨hb.os, hb.tape, hb.output, hb.size, fun i hi _ => hb.block i hi⟩ (by cases v.ownBlock <;> simp)
/-- The three rows. -/
structure R3 (w9 W : World) (UV AV LV : Value) (u a v : List Int) : Prop where
  ou : RowI W w9.heap.size UV u
  oa : RowI W w9.heap.size AV a
  ol : RowI W w9.heap.size LV v
  below : Below w9.heap.size w9 W
  ua : Ap UV AV
  ul : Ap UV LV
  al : Ap AV LV
theorem R3.keep {w9 W W' : World} {UV AV LV : Value} {u a v : List Int} (h : R3 w9 W UV AV LV u a v) (hb : Below W.heap.size W W') : R3 w9 W' UV AV LV u a v :=
  ⟨h.ou.keep hb, h.oa.keep hb, h.ol.keep hb, bl_tr h.below hb, h.ua, h.ul, h.al⟩
theorem R3.pushU {w9 W W' : World} {UV AV LV v' : Value} {u a v : List Int} {x : Int} (h : R3 w9 W UV AV LV u a v) (ho : W'.ownsRow w9.heap.size 3 1 v' (u.length + 1) (u.map (Value.int .i64) ++ [.int .i64 x])) (hg : W.grownBy W' UV.ownBlock) (hat : v'.ownBlock = UV.ownBlock ∨ v'.ownBlock = some W.heap.size) : R3 w9 W' v' AV LV (u ++ [x]) a v := by
  obtain ⟨h1, h2⟩ := h.oa.side h.ua hg hat
  obtain ⟨h3, h4⟩ := h.ol.side h.ul hg hat
  exact ⟨by unfold RowI; simpa using ho, h1, h3, h.below.grown hg h.below.size (fun k hk => (World.ownsRow.lt h.ou k hk).1), h2, h4, h.al⟩
theorem R3.pushA {w9 W W' : World} {UV AV LV v' : Value} {u a v : List Int} {x : Int} (h : R3 w9 W UV AV LV u a v) (ho : W'.ownsRow w9.heap.size 3 1 v' (a.length + 1) (a.map (Value.int .i64) ++ [.int .i64 x])) (hg : W.grownBy W' AV.ownBlock) (hat : v'.ownBlock = AV.ownBlock ∨ v'.ownBlock = some W.heap.size) : R3 w9 W' UV v' LV u (a ++ [x]) v := by
  obtain ⟨h1, h2⟩ := h.ou.side h.ua.sym hg hat
  obtain ⟨h3, h4⟩ := h.ol.side h.al hg hat
  exact ⟨h1, by unfold RowI; simpa using ho, h3, h.below.grown hg h.below.size (fun k hk => (World.ownsRow.lt h.oa k hk).1), h2.sym, h.ul, h4⟩
theorem R3.pushL {w9 W W' : World} {UV AV LV v' : Value} {u a v : List Int} {x : Int} (h : R3 w9 W UV AV LV u a v) (ho : W'.ownsRow w9.heap.size 3 1 v' (v.length + 1) (v.map (Value.int .i64) ++ [.int .i64 x])) (hg : W.grownBy W' LV.ownBlock) (hat : v'.ownBlock = LV.ownBlock ∨ v'.ownBlock = some W.heap.size) : R3 w9 W' UV AV v' u a (v ++ [x]) := by
  obtain ⟨h1, h2⟩ := h.ou.side h.ul.sym hg hat
  obtain ⟨h3, h4⟩ := h.oa.side h.al.sym hg hat
  exact ⟨h1, h3, by unfold RowI; simpa using ho, h.below.grown hg h.below.size (fun k hk => (World.ownsRow.lt h.ol k hk).1), h.ua, h2.sym, h4.sym⟩

end Go.Proofs.YtllnamhgnbdkmaaGreatDoor
namespace Go.Proofs.YtllnamhgnbdkmaaGreatDoor
open Go.RowKit Go.Shelf Go.Sort

set_option maxRecDepth 100000 in
set_option maxHeartbeats 4000000 in
theorem checks_any (w : World) (S : Nat → Prop) (d : Nat) (v : Value) (l : List Gn) (i : Int) (h : GsAt w S d v l) (hl : l.length ≤ 9223372036854775807) (hr : ∀ n ∈ l, GnR n) (hG : Gk w) :
    Calls Tryz.prog 3 #[v, .int .i64 i] w fun e w' => e = .returned (.bool true) ∧ Below w.heap.size w w' := by
  obtain ⟨i0, hi, hq0, hq1, hq2⟩ := info_parts info3
  obtain ⟨GA, gc, rfl⟩ := h.form
  have HAW : Hid (∀ W, Below w.heap.size w W → Calls Tryz.prog 11 #[] W fun e w' => e = .returned (.bool true) ∧ Below W.heap.size W w') := Lib.hid fun W hb => awake_any placesOf_any placesP_ok.two W (hG.below hb)
  have HSL := Lib.hid (small_any w S d _ l h hl)
  have H := Lib.hid h
  have HR := Lib.hid hr
  have HG := Lib.hid hG
  clear h hr hG
  go_enter Tryz.func3, Tryz.ntmps3
  go_wp2_with (fail)
  refine HSL.out.mono ?_
  rintro e w1 ⟨⟨b, rfl, hsm⟩, hb1⟩
  have HB := Lib.hid hb1
  have hb1s := hb1.size
  cases b with
  | false =>
    clear hsm hb1
    go_wp2_with (go_at_call 11; (with_reducible refine (HAW.out _ HB.out).mono ?_); rintro e w9 ⟨rfl, hb9⟩; have HB9 := Lib.hid (HB.out.trans (hb9.mono HB.out.size)); clear hb9)
    go_ret
    exact ⟨rfl, HB9.out⟩
  | true =>
    obtain ⟨hl100, hsn⟩ := hsm rfl
    have HSN := Lib.hid hsn
    have HP1 : Hid (Calls Tryz.prog 12 #[.slice GA l.length gc] w1 fun e w' => (∃ v', e = .returned (.agg #[v']) ∧ GsAt w' (fun b => w1.heap.size ≤ b) d v' l) ∧ Below w1.heap.size w1 w') := Lib.hid (pipe_any w1 S d _ l (H.out.move fun b hb hl => ⟨hb, Nat.lt_of_lt_of_le hl hb1s, fun o => World.cell?_of_block (HB.out.block b hl)⟩) hl100 HSN.out)
    have hfew : FewG l := fun n hn => by have := HSN.out n hn; have h1 := this.ins; have h2 := this.side; omega
    have HFEW := Lib.hid hfew
    have HCK : Hid (∀ W S v, GsAt W S d v l → Below w.heap.size w W → Calls Tryz.prog 13 #[.agg #[v]] W fun e w' => e = .returned (.tuple #[.int .i64 ((chkAll l).1 : Int), .int .i64 (chkAll l).2]) ∧ Below W.heap.size W w') := Lib.hid fun W S v hg hb => checkAll_any W S d v l hg HFEW.out (by omega) (HG.out.below hb)
    have HRC : Hid (∀ W, Below w.heap.size w W → Calls Tryz.prog 14 #[.slice GA l.length gc] W fun e w' => e = .returned (.tuple #[.int .i64 ((chkAll l).1 : Int), .int .i64 (chkAll l).2]) ∧ Below W.heap.size W w') := Lib.hid fun W hb => rcheck_any W S d _ l (H.out.below hb) HSN.out (by omega)
    have HSH : Hid (∀ W S v, GsAt W S d v l → Below w.heap.size w W → Calls Tryz.prog 15 #[.agg #[v]] W fun e w' => e = .returned (.tuple #[.string ⟨(showP l).toArray⟩, .int .i64 (chkAll l).2]) ∧ Below W.heap.size W w') := Lib.hid fun W S v hg hb => show_any W S d v l hg HFEW.out (by omega) HR.out (HG.out.below hb)
    clear hfew hsm hsn hb1
    by_cases hck : (chkAll l).2 = 0
    · obtain ⟨hok, hck2⟩ := okG hck
      have hsl : showP l = textP l := by unfold showP; rw [if_pos hck]
      have h32 := hok.few
      have HOK := Lib.hid hok
      rw [hsl, hck2] at HSH
      rw [hck2] at HCK HRC
      have HPS : Hid (∀ W, Below w.heap.size w W → Calls Tryz.prog 16 #[.string ⟨(textP l).toArray⟩] W fun e w' => ParseOut W w' e (0, 0, l)) := Lib.hid fun W hb => by
        have := parse_any placesOf_any placesP_ok.two (textP l) W (by have := textP_short hok HR.out; omega) (HG.out.below hb)
        rwa [parse_text placesP_rd hok hck2] at this
      have HRS : Hid (∀ W, Below w.heap.size w W → Calls Tryz.prog 17 #[.slice GA l.length gc] W fun e w' => e = .returned (.string ⟨(textP l).toArray⟩) ∧ Below W.heap.size W w') := Lib.hid fun W hb => rshowP_any W S d _ l (H.out.below hb) HOK.out h32 HR.out
      have HND : Hid (∀ W S d v, GsAt W S d v l → Calls Tryz.prog 19 #[.agg #[v]] W fun e w' => (∃ v', e = .returned v' ∧ GsAt w' (fun _ => True) d v' l) ∧ Below W.heap.size W w') := Lib.hid fun W S d v hg => nodes_any W S d v l hg hl100 (fun n hn => (HSN.out n hn).ty)
      have HSA : Hid (∀ W S' d' v, GsAt W S' d' v l → Below w.heap.size w W → Calls Tryz.prog 18 #[v, .slice GA l.length gc] W fun e w' => e = .returned (.bool true) ∧ Below W.heap.size W w') := Lib.hid fun W S' d' v hg hb => rsame_any W S' S d' d v _ l hg (H.out.below hb) (by omega) (fun n hn => ⟨(HSN.out n hn).ty, HFEW.out n hn⟩)
      generalize textP l = tx at *
      have HCKZ := Lib.hid hck
      clear hok hck2 hsl hck
      go_wp2_with (first
        | (go_at_call 12; (with_reducible refine HP1.out.mono ?_); rintro e w2 ⟨⟨v2, rfl, hg2⟩, hb2⟩; obtain ⟨PA, pc, rfl⟩ := hg2.form; have HG2 := Lib.hid hg2; have HB := Lib.hid (HB.out.trans (hb2.mono HB.out.size)); clear hg2 hb2)
        | (go_at_call 13; (with_reducible refine (HCK.out _ _ _ (HG2.out.below (bl_al (Below.refl _ _) _)) (HB.out.alloc HB.out.size _)).mono ?_); rintro e w3 ⟨rfl, hb3⟩; have HPX := Lib.hid (bl_blk hb3 (heap_alloc_new w2 _)); have HG3 := Lib.hid (HG2.out.below (bl_tr (bl_al (Below.refl _ _) _) hb3)); have HB3W := Lib.hid ((HB.out.alloc HB.out.size _).trans (hb3.mono (HB.out.alloc HB.out.size _).size)); have HP : Hid (Below w3.heap.size w3 w3) := Lib.hid (Below.refl _ _); have px := cellN (i := 0) (x := .slice PA l.length pc) HPX.out rfl; have pl := cell_lt HPX.out; have HB := Lib.hid ((HB.out.alloc HB.out.size _).trans (hb3.mono (HB.out.alloc HB.out.size _).size)); clear hb3)
        | (go_at_call 14; (with_reducible refine (HRC.out _ HB.out).mono ?_); rintro e w4 ⟨rfl, hb4⟩; have HP := Lib.hid (bl_tr HP.out hb4); have px := cellN (i := 0) (x := .slice PA l.length pc) (bl_blk HP.out HPX.out) rfl; have pl := cell_lt (bl_blk HP.out HPX.out); have HB := Lib.hid (HB.out.trans (hb4.mono HB.out.size)); clear hb4)
        | (go_at_call 15; (with_reducible refine (HSH.out _ _ _ (HG3.out.below HP.out) HB.out).mono ?_); rintro e w5 ⟨rfl, hb5⟩; have HP := Lib.hid (bl_tr HP.out hb5); have px := cellN (i := 0) (x := .slice PA l.length pc) (bl_blk HP.out HPX.out) rfl; have pl := cell_lt (bl_blk HP.out HPX.out); have HB := Lib.hid (HB.out.trans (hb5.mono HB.out.size)); clear hb5)
        | (go_at_call 16; (with_reducible refine (HPS.out _ HB.out).mono ?_); rintro e w6 ⟨⟨v6, rfl, hg6⟩, hb6⟩; obtain ⟨QA, qc, rfl⟩ := hg6.form; have HG6 := Lib.hid hg6; have HP := Lib.hid (bl_tr HP.out hb6); have px := cellN (i := 0) (x := .slice PA l.length pc) (bl_blk HP.out HPX.out) rfl; have pl := cell_lt (bl_blk HP.out HPX.out); have HB := Lib.hid (HB.out.trans (hb6.mono HB.out.size)); clear hg6 hb6)
        | (go_at_call 17; (with_reducible refine (HRS.out _ (HB.out.alloc HB.out.size _)).mono ?_); rintro e w7 ⟨rfl, hb7⟩; have hb67 : Below w6.heap.size w6 w7 := bl_tr (bl_al (Below.refl _ _) _) hb7; have hq7 := bl_blk hb7 (heap_alloc_new w6 _); have qx := cellN (i := 0) (x := .slice QA l.length qc) hq7 rfl; have ql := cell_lt hq7; have HG7 := Lib.hid (HG6.out.below hb67); have HP := Lib.hid (bl_tr HP.out hb67); have px := cellN (i := 0) (x := .slice PA l.length pc) (bl_blk HP.out HPX.out) rfl; have pl := cell_lt (bl_blk HP.out HPX.out); have HB := Lib.hid (HB.out.trans (hb67.mono HB.out.size)); clear hb7 hb67 hq7)
        | (go_at_call 19; (with_reducible refine (HND.out _ _ _ _ HG7.out).mono ?_); rintro e w8 ⟨⟨v8, rfl, hg8⟩, hb8⟩; have HG8 := Lib.hid hg8; have HP := Lib.hid (bl_tr HP.out hb8); have px := cellN (i := 0) (x := .slice PA l.length pc) (bl_blk HP.out HPX.out) rfl; have pl := cell_lt (bl_blk HP.out HPX.out); have HB := Lib.hid (HB.out.trans (hb8.mono HB.out.size)); clear hg8 hb8)
        | (go_at_call 18; (with_reducible refine (HSA.out _ _ _ _ HG8.out HB.out).mono ?_); rintro e w9 ⟨rfl, hb9⟩; have HP := Lib.hid (bl_tr HP.out hb9); have px := cellN (i := 0) (x := .slice PA l.length pc) (bl_blk HP.out HPX.out) rfl; have pl := cell_lt (bl_blk HP.out HPX.out); have HB := Lib.hid (HB.out.trans (hb9.mono HB.out.size)); clear hb9)
        | fail)
      have HOPS : Hid (∀ (b o : Nat), GA = some ⟨b, o, none⟩ → ∀ (j : Nat) (hj : j < l.length) (W : World), Below w.heap.size w W → W.cell? ⟨b, o + j * 14, none⟩ = some (.int .i64 (l[j]).op)) := Lib.hid fun b o e j hj W hb => by
        obtain ⟨b', o', e', h1, _, _, _, _, _, _, _, _, a0, _⟩ := H.out.at hj
        rw [e] at e'
        simp only [Option.some.injEq, Addr.mk.injEq, and_true] at e'
        obtain ⟨rfl, rfl⟩ := e'
        exact (hb.cell (p := ⟨b, o + j * 14, none⟩) h1).trans a0
      have HABV : Hid (∀ (W : World) (j : Int) (k : Nat), Below w.heap.size w W → k < l.length → Calls Tryz.prog 21 #[.slice GA l.length gc, .int .i64 (k : Int), .int .i64 j] W fun e w' => e = .returned (.bool (abB l j k)) ∧ Below W.heap.size W w') := Lib.hid fun W j k hb hk => raboveI_any W S d _ l k j (H.out.below hb) HOK.out hk
      have hbw9 := HB.out.size
      go_loopw [15, 16, 17, 85] (fun s15 s16 s17 iv wr => ∃ k : Nat, iv = .int .i64 (k : Int) ∧ k ≤ l.length ∧ Hid (R3 w9 wr s15 s16 s17 (plF (fun x => decide (i ∈ rdAt l x)) k) (plF (abB l i) k) (plF (liB l) k))) (fun _ _ _ iv _ => l.length - (intOf iv).toNat)
      case atStart => exact ⟨0, rfl, Nat.zero_le _, Lib.hid ⟨World.ownsRow_nil _ _ _ _, World.ownsRow_nil _ _ _ _, World.ownsRow_nil _ _ _ _, Below.refl _ _, .inl rfl, .inl rfl, .inl rfl⟩⟩
      case round =>
        rename_i s15 s16 s17 _
        obtain ⟨k, rfl, hk, HR3⟩ := hrel
        obtain ⟨UA, uc, rfl⟩ := own_slice HR3.out.ou
        obtain ⟨AA, ac, rfl⟩ := own_slice HR3.out.oa
        obtain ⟨LA, lc, rfl⟩ := own_slice HR3.out.ol
        by_cases hlt : k < l.length
        · have hkl : (k : Int) < (l.length : Int) := by omega
          have HBW : Hid (Below w.heap.size w wr) := Lib.hid (HB.out.trans (HR3.out.below.mono HB.out.size))
          have hat := (H.out.below HBW.out).at hlt
          have hfn := HFEW.out _ (List.getElem_mem hlt)
          have hrd : rdAt l k = readsN l[k] := by unfold rdAt; rw [List.getElem?_eq_getElem hlt]
          have hsk : sinkB l k = (l[k].op == 6) := by unfold sinkB; rw [List.getElem?_eq_getElem hlt]
          generalize l[k] = n at *
          obtain ⟨b, o, rfl, hbl, hS, IA, SA, A, ic, sc, c, hN, a0, a1, a2, a3, a4, a5, a6, a7, a8, a9, a10, a11, a12, a13⟩ := hat
          have HN := Lib.hid hN
          have HSK := Lib.hid hsk
          obtain ⟨rd, hrdv⟩ : ∃ v, decide (i ∈ readsN n) = v := ⟨_, rfl⟩
          have HRD : Hid (∀ W, Below wr.heap.size wr W → Calls Tryz.prog 20 #[.agg #[.int .i64 n.op, .slice IA n.ins.length ic, .slice SA n.side.length sc, .string ⟨n.text.toArray⟩, .int .i64 n.ty.kind, .slice A n.ty.args.length c, .int .i64 n.f0, .int .i64 n.f1, .int .i64 n.f2, .int .i64 n.f3, .int .i64 n.e, .int .i64 n.l, .int .i64 n.lt, .bool n.acc], .int .i64 i] W fun e w' => e = .returned (.bool rd) ∧ Below W.heap.size W w') := Lib.hid fun W hb => by
            rw [← hrdv]; exact rreads_any W S d n i IA SA A ic sc c (hN.below hb) hfn
          have HUX : Hid (plF (fun x => decide (i ∈ rdAt l x)) (k + 1) = if rd = true then plF (fun x => decide (i ∈ rdAt l x)) k ++ [(k : Int)] else plF (fun x => decide (i ∈ rdAt l x)) k) := Lib.hid (by rw [plF_next]; simp only [hrd, hrdv])
          have hpl1 := plF_len (fun x => decide (i ∈ rdAt l x)) k
          have hpl2 := plF_len (abB l i) k
          have hpl3 := plF_len (liB l) k
          have hb9 := HR3.out.below.size
          clear hN hS hrd hsk hrdv hfn
          go_upto_if 93 with (go_at_call 20; (with_reducible refine (HRD.out _ (Below.refl _ _)).mono ?_); rintro e w10 ⟨rfl, hb⟩; have HRX := Lib.hid (HR3.out.keep hb); have hsz := hb.size; clear hb)
          go_cut [15] (fun s15 wx => Hid (R3 w9 wx s15 (.slice AA (plF (abB l i) k).length ac) (.slice LA (plF (liB l) k).length lc) (plF (fun x => decide (i ∈ rdAt l x)) (k + 1)) (plF (abB l i) k) (plF (liB l) k)))
          case first =>
            cases rd with
            | false =>
              go_wp2_with (fail)
              go_meet
              exact Lib.hid (by rw [HUX.out]; exact HRX.out)
            | true =>
              go_wp2_with (at_builtin; refine wpList_append_own_at _ rfl _ _ 41 rfl w9.heap.size 3 i0 (.int .i64 0) 1 8 Tryz.underlying41 hi hq0 hq1 hq2 rfl (by decide) _ (plF (fun x => decide (i ∈ rdAt l x)) k).length ((plF (fun x => decide (i ∈ rdAt l x)) k).map (Value.int .i64)) rfl (World.ownsRow.alloc HRX.out.ou _) ⟨w10.heap.size, 0, none⟩ 1 1 [.int .i64 (k : Int)] rfl rfl (World.news_of_block (cs := #[.int .i64 (k : Int)]) (t := 3) (fr := (0, 0)) (heap_alloc_new w10 _)) (by simp [Value.oneCell']) (by unfold maxLen; omega) (by omega) (by simp; omega) ?_; intro v7 w7 hown7 hg7 _ hat7; have HO7 := Lib.hid hown7; have HG7 := Lib.hid hg7; have HT7 := Lib.hid hat7; clear hown7 hg7 hat7)
              go_meet
              exact Lib.hid (by rw [HUX.out]; exact R3.pushU (HRX.out.keep (bl_al (Below.refl _ _) _)) HO7.out HG7.out HT7.out)
          case rest =>
            rename World => wa
            rename_i s15
            have HRA := hcut
            obtain ⟨UA, uc, rfl⟩ := own_slice HRA.out.ou
            have hba := HRA.out.below.size
            have HBA : Hid (Below w.heap.size w wa) := Lib.hid (HB.out.trans (HRA.out.below.mono hbw9))
            obtain ⟨av, hav⟩ : ∃ q, abB l i k = q := ⟨_, rfl⟩
            have HAV := HABV.out wa i k HBA.out hlt
            rw [hav] at HAV
            have HAV := Lib.hid HAV
            have HAX : Hid (plF (abB l i) (k + 1) = if av = true then plF (abB l i) k ++ [(k : Int)] else plF (abB l i) k) := Lib.hid (by rw [plF_next, hav])
            clear hav
            go_upto_if 101 with (go_at_call 21; (with_reducible refine HAV.out.mono ?_); rintro e w11 ⟨rfl, hb⟩; have HRX := Lib.hid (HRA.out.keep hb); have hsz := hb.size; clear hb)
            go_cut [16] (fun s16 wx => Hid (R3 w9 wx (.slice UA (plF (fun x => decide (i ∈ rdAt l x)) (k + 1)).length uc) s16 (.slice LA (plF (liB l) k).length lc) (plF (fun x => decide (i ∈ rdAt l x)) (k + 1)) (plF (abB l i) (k + 1)) (plF (liB l) k)))
            case first =>
              cases av with
              | false =>
                go_wp2_with (fail)
                go_meet
                exact Lib.hid (by rw [HAX.out]; exact HRX.out)
              | true =>
                go_wp2_with (at_builtin; refine wpList_append_own_at _ rfl _ _ 41 rfl w9.heap.size 3 i0 (.int .i64 0) 1 8 Tryz.underlying41 hi hq0 hq1 hq2 rfl (by decide) _ (plF (abB l i) k).length ((plF (abB l i) k).map (Value.int .i64)) rfl (World.ownsRow.alloc HRX.out.oa _) ⟨w11.heap.size, 0, none⟩ 1 1 [.int .i64 (k : Int)] rfl rfl (World.news_of_block (cs := #[.int .i64 (k : Int)]) (t := 3) (fr := (0, 0)) (heap_alloc_new w11 _)) (by simp [Value.oneCell']) (by unfold maxLen; omega) (by omega) (by simp; omega) ?_; intro v7 w7 hown7 hg7 _ hat7; have HO7 := Lib.hid hown7; have HG7 := Lib.hid hg7; have HT7 := Lib.hid hat7; clear hown7 hg7 hat7)
                go_meet
                exact Lib.hid (by rw [HAX.out]; exact R3.pushA (HRX.out.keep (bl_al (Below.refl _ _) _)) HO7.out HG7.out HT7.out)
            case rest =>
              rename World => wb
              rename_i s16
              have HRB := hcut
              obtain ⟨AA, ac, rfl⟩ := own_slice HRB.out.oa
              have hbb := HRB.out.below.size
              have HBB : Hid (Below w.heap.size w wb) := Lib.hid (HB.out.trans (HRB.out.below.mono hbw9))
              have hop := HOPS.out b o rfl k hlt wb HBB.out
              have hskk : sinkB l k = (l[k].op == 6) := by unfold sinkB; rw [List.getElem?_eq_getElem hlt]
              generalize l[k].op = op0 at hop hskk
              obtain ⟨q0, hqq⟩ : ∃ q, (op0 == 6) = q := ⟨_, rfl⟩
              rw [hqq] at hskk
              have HSKK := Lib.hid hskk
              clear hskk
              go_wp2_with (fail)
              rename World => wi
              go_loopw [19, 114] (fun s19 jv wr => ∃ (j : Nat) (ab : Bool), s19 = .bool ab ∧ jv = .int .i64 (j : Int) ∧ j ≤ l.length ∧ Hid (ab = (q0 || (List.range j).any fun x => sinkB l x && abB l (x : Int) k)) ∧ Hid (R3 w9 wr (.slice UA (plF (fun x => decide (i ∈ rdAt l x)) (k + 1)).length uc) (.slice AA (plF (abB l i) (k + 1)).length ac) (.slice LA (plF (liB l) k).length lc) (plF (fun x => decide (i ∈ rdAt l x)) (k + 1)) (plF (abB l i) (k + 1)) (plF (liB l) k))) (fun _ jv _ => l.length - (intOf jv).toNat)
              case atStart => exact ⟨0, q0, rfl, rfl, Nat.zero_le _, Lib.hid (by simp), HRB⟩
              case round =>
                obtain ⟨j, ab, rfl, rfl, hj, HAC, HRJ⟩ := hrel
                have hbj := HRJ.out.below.size
                by_cases hlj : j < l.length
                · have hjl : (j : Int) < (l.length : Int) := by omega
                  have HBJ : Hid (Below w.heap.size w wr) := Lib.hid (HB.out.trans (HRJ.out.below.mono hbw9))
                  have hopj := HOPS.out b o rfl j hlj wr HBJ.out
                  have hsj : sinkB l j = (l[j].op == 6) := by unfold sinkB; rw [List.getElem?_eq_getElem hlj]
                  generalize l[j].op = op1 at hopj hsj
                  obtain ⟨sj, hsq⟩ : ∃ q, (op1 == 6) = q := ⟨_, rfl⟩
                  rw [hsq] at hsj
                  obtain ⟨bj, hbq⟩ : ∃ q, abB l (j : Int) k = q := ⟨_, rfl⟩
                  have HAJ := HABV.out wr (j : Int) k HBJ.out hlt
                  rw [hbq] at HAJ
                  have HAJ := Lib.hid HAJ
                  have HNX : Hid ((q0 || (List.range (j + 1)).any fun x => sinkB l x && abB l (x : Int) k) = (ab || (sj && bj))) := Lib.hid (by rw [HAC.out, List.range_succ, List.any_append, ← Bool.or_assoc]; simp [hsj, hbq])
                  clear hsj hbq
                  cases ab with
                  | true =>
                    go_wp2_with (fail)
                    go_roundw
                    case rel => exact ⟨j + 1, _, rfl, by go_num, by omega, Lib.hid (by rw [HNX.out]; rfl), HRJ⟩
                    case measure => simp [intOf]; omega
                  | false =>
                    cases sj with
                    | false =>
                      go_wp2_with (fail)
                      go_roundw
                      case rel => exact ⟨j + 1, _, rfl, by go_num, by omega, Lib.hid (by rw [HNX.out]; rfl), HRJ⟩
                      case measure => simp [intOf]; omega
                    | true =>
                      go_wp2_with (go_at_call 21; (with_reducible refine HAJ.out.mono ?_); rintro e w12 ⟨rfl, hb⟩; have HRY := Lib.hid (HRJ.out.keep hb); clear hb)
                      go_roundw
                      case rel => exact ⟨j + 1, _, rfl, by go_num, by omega, Lib.hid (by rw [HNX.out]; simp), HRY⟩
                      case measure => simp [intOf]; omega
                · obtain rfl : j = l.length := by omega
                  have hjl : ¬ ((l.length : Int) < (l.length : Int)) := by omega
                  have HLX : Hid (plF (liB l) (k + 1) = if ab = true then plF (liB l) k ++ [(k : Int)] else plF (liB l) k) := Lib.hid (by rw [plF_next, HAC.out, ← HSKK.out]; rfl)
                  clear hop
                  cases ab with
                  | false =>
                    go_wp2_with (fail)
                    go_roundw
                    case rel => exact ⟨k + 1, by go_num, by omega, Lib.hid (by rw [HLX.out]; exact HRJ.out)⟩
                    case measure => simp [intOf]; omega
                  | true =>
                    go_wp2_with (at_builtin; refine wpList_append_own_at _ rfl _ _ 41 rfl w9.heap.size 3 i0 (.int .i64 0) 1 8 Tryz.underlying41 hi hq0 hq1 hq2 rfl (by decide) _ (plF (liB l) k).length ((plF (liB l) k).map (Value.int .i64)) rfl (World.ownsRow.alloc HRJ.out.ol _) ⟨wr.heap.size, 0, none⟩ 1 1 [.int .i64 (k : Int)] rfl rfl (World.news_of_block (cs := #[.int .i64 (k : Int)]) (t := 3) (fr := (0, 0)) (heap_alloc_new wr _)) (by simp [Value.oneCell']) (by unfold maxLen; omega) (by omega) (by simp; omega) ?_; intro v7 w7 hown7 hg7 _ hat7; have HO7 := Lib.hid hown7; have HG7 := Lib.hid hg7; have HT7 := Lib.hid hat7; clear hown7 hg7 hat7)
                    go_roundw
                    case rel => exact ⟨k + 1, by go_num, by omega, Lib.hid (by rw [HLX.out]; exact R3.pushL (HRJ.out.keep (bl_al (Below.refl _ _) _)) HO7.out HG7.out HT7.out)⟩
                    case measure => simp [intOf]; omega
        · obtain rfl : k = l.length := by omega
          have hkl : ¬ ((l.length : Int) < (l.length : Int)) := by omega
          have HRW := HR3
          have HPW : Hid (Below w3.heap.size w3 wr) := Lib.hid (bl_tr HP.out HR3.out.below)
          have px := cellN (i := 0) (x := .slice PA l.length pc) (bl_blk HPW.out HPX.out) rfl; have pl := cell_lt (bl_blk HPW.out HPX.out)
          have HGKW : Hid (∀ W, Below w3.heap.size w3 W → Gk W) := Lib.hid fun W hb => HG.out.below (HB3W.out.trans (hb.mono HB3W.out.size))
          have HUS : Hid (∀ W, Below w3.heap.size w3 W → Calls Tryz.prog 23 #[.agg #[.slice PA l.length pc], .int .i64 i] W fun e w' => (∃ v', e = .returned v' ∧ IntsAt w' (fun b => W.heap.size ≤ b) v' (plF (fun x => decide (i ∈ rdAt l x)) l.length)) ∧ Below W.heap.size W w') := Lib.hid fun W hb => by
            have := users_any W _ d _ l i (HG3.out.below hb) HFEW.out (by omega) (HGKW.out W hb)
            unfold okR at this
            rw [if_pos HCKZ.out] at this
            exact this
          have HABP : Hid (∀ W, Below w3.heap.size w3 W → Calls Tryz.prog 24 #[.agg #[.slice PA l.length pc], .int .i64 i] W fun e w' => (∃ v', e = .returned v' ∧ IntsAt w' (fun b => W.heap.size ≤ b) v' (plF (abB l i) l.length)) ∧ Below W.heap.size W w') := Lib.hid fun W hb => by
            have := above_any W _ d _ l i (HG3.out.below hb) HFEW.out (by omega) (HGKW.out W hb)
            unfold okR at this
            rwa [if_pos HCKZ.out, above_plF HOK.out] at this
          have HLV : Hid (∀ W, Below w3.heap.size w3 W → Calls Tryz.prog 25 #[.agg #[.slice PA l.length pc]] W fun e w' => (∃ v', e = .returned v' ∧ IntsAt w' (fun b => W.heap.size ≤ b) v' (plF (liB l) l.length)) ∧ Below W.heap.size W w') := Lib.hid fun W hb => by
            have := live_any W _ d _ l (HG3.out.below hb) HFEW.out (by omega) (HGKW.out W hb)
            unfold okR at this
            rwa [if_pos HCKZ.out, live_plF HOK.out] at this
          have HSM : Hid (∀ (W : World) (S : Nat → Prop) (z y : Value) (L : List Int), IntsAt W S z L → RowI W w9.heap.size y L → L.length ≤ 1000000 → Calls Tryz.prog 22 #[z, y] W fun e w' => e = .returned (.bool true) ∧ ∃ m, w' = W.drewN m) := Lib.hid fun W S z y L h1 h2 h3 => lsameI_any W S _ z y L h1 (IntsAt.of_own h2) h3
          have hpl1 := plF_len (fun x => decide (i ∈ rdAt l x)) l.length
          have hpl2 := plF_len (abB l i) l.length
          have hpl3 := plF_len (liB l) l.length
          go_wp2_with (first
            | (go_at_call 23; (with_reducible refine (HUS.out _ HPW.out).mono ?_); rintro e w20 ⟨⟨v20, rfl, hi20⟩, hb20⟩; obtain ⟨Z1, z1, rfl⟩ := hi20.form; have HI20 := Lib.hid hi20; clear hi20; have HRW := Lib.hid (HRW.out.keep hb20); have HPW := Lib.hid (bl_tr HPW.out hb20); have px := cellN (i := 0) (x := .slice PA l.length pc) (bl_blk HPW.out HPX.out) rfl; have pl := cell_lt (bl_blk HPW.out HPX.out); clear hb20)
            | (go_at_call 22; (with_reducible refine (HSM.out _ _ _ _ _ HI20.out HRW.out.ou (by omega)).mono ?_); rintro e w21 ⟨rfl, m, rfl⟩; have hbm : Below w20.heap.size w20 (w20.drewN m) := bl_drn (Below.refl _ _) m; have HRW := Lib.hid (HRW.out.keep hbm); have HPW := Lib.hid (bl_tr HPW.out hbm); clear hbm)
            | (go_at_call 24; (with_reducible refine (HABP.out _ HPW.out).mono ?_); rintro e w22 ⟨⟨v22, rfl, hi22⟩, hb22⟩; obtain ⟨Z2, z2, rfl⟩ := hi22.form; have HI22 := Lib.hid hi22; clear hi22; have HRW := Lib.hid (HRW.out.keep hb22); have HPW := Lib.hid (bl_tr HPW.out hb22); have px := cellN (i := 0) (x := .slice PA l.length pc) (bl_blk HPW.out HPX.out) rfl; have pl := cell_lt (bl_blk HPW.out HPX.out); clear hb22)
            | (go_at_call 22; (with_reducible refine (HSM.out _ _ _ _ _ HI22.out HRW.out.oa (by omega)).mono ?_); rintro e w23 ⟨rfl, m, rfl⟩; have hbm : Below w22.heap.size w22 (w22.drewN m) := bl_drn (Below.refl _ _) m; have HRW := Lib.hid (HRW.out.keep hbm); have HPW := Lib.hid (bl_tr HPW.out hbm); clear hbm)
            | (go_at_call 25; (with_reducible refine (HLV.out _ HPW.out).mono ?_); rintro e w24 ⟨⟨v24, rfl, hi24⟩, hb24⟩; obtain ⟨Z3, z3, rfl⟩ := hi24.form; have HI24 := Lib.hid hi24; clear hi24; have HRW := Lib.hid (HRW.out.keep hb24); have HPW := Lib.hid (bl_tr HPW.out hb24); have px := cellN (i := 0) (x := .slice PA l.length pc) (bl_blk HPW.out HPX.out) rfl; have pl := cell_lt (bl_blk HPW.out HPX.out); clear hb24)
            | (go_at_call 22; (with_reducible refine (HSM.out _ _ _ _ _ HI24.out HRW.out.ol (by omega)).mono ?_); rintro e w25 ⟨rfl, m, rfl⟩; have hbm : Below w24.heap.size w24 (w24.drewN m) := bl_drn (Below.refl _ _) m; have HRW := Lib.hid (HRW.out.keep hbm); have HPW := Lib.hid (bl_tr HPW.out hbm); clear hbm)
            | (go_at_call 19; (with_reducible refine (HND.out _ _ _ _ (HG3.out.below HPW.out)).mono ?_); rintro e w26 ⟨⟨v26, rfl, hg26⟩, hb26⟩; have HG26 := Lib.hid hg26; clear hg26; have HRW := Lib.hid (HRW.out.keep hb26); have HPW := Lib.hid (bl_tr HPW.out hb26); have px := cellN (i := 0) (x := .slice PA l.length pc) (bl_blk HPW.out HPX.out) rfl; have pl := cell_lt (bl_blk HPW.out HPX.out); clear hb26)
            | (go_at_call 18; (with_reducible refine (HSA.out _ _ _ _ HG26.out (HB.out.trans (HRW.out.below.mono hbw9))).mono ?_); rintro e w27 ⟨rfl, hb27⟩; have HRW := Lib.hid (HRW.out.keep hb27); have HPW := Lib.hid (bl_tr HPW.out hb27); have px := cellN (i := 0) (x := .slice PA l.length pc) (bl_blk HPW.out HPX.out) rfl; have pl := cell_lt (bl_blk HPW.out HPX.out); clear hb27)
            | (go_at_call 11; (with_reducible refine (HAW.out _ (HB.out.trans (HRW.out.below.mono hbw9))).mono ?_); rintro e w28 ⟨rfl, hb28⟩; have HRW := Lib.hid (HRW.out.keep hb28); have HPW := Lib.hid (bl_tr HPW.out hb28); have px := cellN (i := 0) (x := .slice PA l.length pc) (bl_blk HPW.out HPX.out) rfl; have pl := cell_lt (bl_blk HPW.out HPX.out); clear hb28)
            | fail)
          go_ret
          exact ⟨rfl, HB.out.trans (HRW.out.below.mono hbw9)⟩
    · have hsl : showP l = [] := by unfold showP; rw [if_neg hck]
      rw [hsl] at HSH
      have hce : ((chkAll l).2 != 0) = true := by simp [hck]
      have hce2 : ((chkAll l).2 == 0) = false := by simp [hck]
      generalize (chkAll l).2 = ce at *
      generalize (chkAll l).1 = ca at *
      clear hsl hck
      go_wp2_with (first
        | (go_at_call 12; (with_reducible refine HP1.out.mono ?_); rintro e w2 ⟨⟨v2, rfl, hg2⟩, hb2⟩; obtain ⟨PA, pc, rfl⟩ := hg2.form; have HG2 := Lib.hid hg2; have HB := Lib.hid (HB.out.trans (hb2.mono HB.out.size)); clear hg2 hb2)
        | (go_at_call 13; (with_reducible refine (HCK.out _ _ _ (HG2.out.below (bl_al (Below.refl _ _) _)) (HB.out.alloc HB.out.size _)).mono ?_); rintro e w3 ⟨rfl, hb3⟩; have HPX := Lib.hid (bl_blk hb3 (heap_alloc_new w2 _)); have HG3 := Lib.hid (HG2.out.below (bl_tr (bl_al (Below.refl _ _) _) hb3)); have HB3W := Lib.hid ((HB.out.alloc HB.out.size _).trans (hb3.mono (HB.out.alloc HB.out.size _).size)); have HP : Hid (Below w3.heap.size w3 w3) := Lib.hid (Below.refl _ _); have px := cellN (i := 0) (x := .slice PA l.length pc) HPX.out rfl; have pl := cell_lt HPX.out; have HB := Lib.hid ((HB.out.alloc HB.out.size _).trans (hb3.mono (HB.out.alloc HB.out.size _).size)); clear hb3)
        | (go_at_call 14; (with_reducible refine (HRC.out _ HB.out).mono ?_); rintro e w4 ⟨rfl, hb4⟩; have HP := Lib.hid (bl_tr HP.out hb4); have px := cellN (i := 0) (x := .slice PA l.length pc) (bl_blk HP.out HPX.out) rfl; have pl := cell_lt (bl_blk HP.out HPX.out); have HB := Lib.hid (HB.out.trans (hb4.mono HB.out.size)); clear hb4)
        | (go_at_call 15; (with_reducible refine (HSH.out _ _ _ (HG3.out.below HP.out) HB.out).mono ?_); rintro e w5 ⟨rfl, hb5⟩; have HP := Lib.hid (bl_tr HP.out hb5); have px := cellN (i := 0) (x := .slice PA l.length pc) (bl_blk HP.out HPX.out) rfl; have pl := cell_lt (bl_blk HP.out HPX.out); have HB := Lib.hid (HB.out.trans (hb5.mono HB.out.size)); clear hb5)
        | (go_at_call 11; (with_reducible refine (HAW.out _ HB.out).mono ?_); rintro e w9 ⟨rfl, hb9⟩; have HB9 := Lib.hid (HB.out.trans (hb9.mono HB.out.size)); clear hb9)
        | fail)
      go_ret
      exact ⟨rfl, HB9.out⟩

end Go.Proofs.YtllnamhgnbdkmaaGreatDoor
