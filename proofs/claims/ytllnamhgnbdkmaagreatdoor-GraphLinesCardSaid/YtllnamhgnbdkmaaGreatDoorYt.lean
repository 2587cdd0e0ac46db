/-
Stage 11: GraphLines.
-/
import Derived.Test.YtllnamhgnbdkmaaGreatDoorYs
set_option linter.unusedVariables false
set_option linter.unusedSimpArgs false
namespace Go.Proofs.YtllnamhgnbdkmaaGreatDoor
open Go.RowKit Go.Shelf Go.Sort

set_option maxRecDepth 100000 in
set_option maxHeartbeats 4000000 in
theorem lines_any (w : World) (S : Nat → Prop) (d : Nat) (v : Value) (l : List Gn) (k : Int) (h : GsAt w S d v l) (hl : l.length ≤ 9223372036854775807) (hr : ∀ n ∈ l, GnR n) (hG : Gk w) :
    Calls Tryz.prog 9 #[v, .int .i64 k] w fun e w' => e = .returned (.bool true) ∧ Below w.heap.size w w' := by
  obtain ⟨GA, gc, rfl⟩ := h.form
  have HAW : Hid (∀ W, Below w.heap.size w W → Calls Tryz.prog 11 #[] W fun e w' => e = .returned (.bool true) ∧ Below W.heap.size W w') := Lib.hid fun W hb => awake_any placesOf_any placesP_ok.two W (hG.below hb)
  have HSL := Lib.hid (small_any w S d _ l h hl)
  have H := Lib.hid h
  have HR := Lib.hid hr
  have HG := Lib.hid hG
  clear h hr hG
  go_enter Tryz.func9, Tryz.ntmps9
  go_wp2_with (fail)
  refine HSL.out.mono ?_
  rintro e w1 ⟨⟨b, rfl, hsm⟩, hb1⟩
  have HB1 := Lib.hid hb1
  have hb1s := hb1.size
  cases b with
  | false =>
    clear hsm hb1
    go_wp2_with (go_at_call 11; (with_reducible refine (HAW.out _ HB1.out).mono ?_); rintro e w9 ⟨rfl, hb9⟩; have HB9 := Lib.hid (HB1.out.trans (hb9.mono HB1.out.size)); clear hb9)
    go_ret
    exact ⟨rfl, HB9.out⟩
  | true =>
    obtain ⟨hl100, hsn⟩ := hsm rfl
    have HSN := Lib.hid hsn
    clear hsm hsn hb1
    by_cases hk1 : k < 1
    · go_wp2_with (go_at_call 11; (with_reducible refine (HAW.out _ HB1.out).mono ?_); rintro e w9 ⟨rfl, hb9⟩; have HB9 := Lib.hid (HB1.out.trans (hb9.mono HB1.out.size)); clear hb9)
      go_ret
      exact ⟨rfl, HB9.out⟩
    by_cases hkl : (l.length : Int) < k
    · go_wp2_with (go_at_call 11; (with_reducible refine (HAW.out _ HB1.out).mono ?_); rintro e w9 ⟨rfl, hb9⟩; have HB9 := Lib.hid (HB1.out.trans (hb9.mono HB1.out.size)); clear hb9)
      go_ret
      exact ⟨rfl, HB9.out⟩
    obtain ⟨kn, rfl⟩ : ∃ kn : Nat, k = (kn : Int) := ⟨k.toNat, by omega⟩
    have hkl' : kn ≤ l.length := by omega
    have hgc : l.length ≤ gc := by
      obtain ⟨A, c, e, hc, _⟩ := H.out
      injection e with e1 e2 e3
      omega
    have hkc : (kn : Int) ≤ (gc : Int) := by omega
    have hk0 : (0 : Int) ≤ (kn : Int) := by omega
    have HT : Hid (GsAt w S d (.slice GA kn gc) (l.take kn)) := Lib.hid (H.out.take kn hkl')
    have HP1 : Hid (Calls Tryz.prog 12 #[.slice GA l.length gc] w1 fun e w' => (∃ v', e = .returned (.agg #[v']) ∧ GsAt w' (fun b => w1.heap.size ≤ b) d v' l) ∧ Below w1.heap.size w1 w') := Lib.hid (pipe_any w1 S d _ l (H.out.move fun b hb hl => ⟨hb, Nat.lt_of_lt_of_le hl hb1s, fun o => World.cell?_of_block (HB1.out.block b hl)⟩) hl100 HSN.out)
    have HP2 : Hid (∀ W, Below w.heap.size w W → Calls Tryz.prog 12 #[.slice GA kn gc] W fun e w' => (∃ v', e = .returned (.agg #[v']) ∧ GsAt w' (fun b => W.heap.size ≤ b) d v' (l.take kn)) ∧ Below W.heap.size W w') := Lib.hid fun W hb => pipe_any W S d _ (l.take kn) (HT.out.move fun b hb' hl => ⟨hb', Nat.lt_of_lt_of_le hl hb.size, fun o => World.cell?_of_block (hb.block b hl)⟩) (by rw [List.length_take]; omega) (fun n hn => HSN.out n (List.mem_of_mem_take hn))
    have hfew : FewG l := fun n hn => by have := HSN.out n hn; have h1 := this.ins; have h2 := this.side; omega
    have HFEW := Lib.hid hfew
    have HS1 : Hid (∀ W S v, GsAt W S d v l → Below w.heap.size w W → Calls Tryz.prog 15 #[.agg #[v]] W fun e w' => e = .returned (.tuple #[.string ⟨(showP l).toArray⟩, .int .i64 (chkAll l).2]) ∧ Below W.heap.size W w') := Lib.hid fun W S v hg hb => show_any W S d v l hg HFEW.out (by omega) HR.out (HG.out.below hb)
    clear hfew
    by_cases hck : (chkAll l).2 = 0
    · obtain ⟨hok, hck2⟩ := okG hck
      have hsl : showP l = textP l := by unfold showP; rw [if_pos hck]
      have hok2 := okG_take hok (k := kn) (by omega) hkl'
      have hck3 := chkAll_of hok2
      have hsl2 : showP (l.take kn) = textP (l.take kn) := by unfold showP; rw [if_pos (by rw [hck3])]
      rw [hsl, hck] at HS1
      have hr2 : ∀ n ∈ l.take kn, GnR n := fun n hn => HR.out n (List.mem_of_mem_take hn)
      have HS2 : Hid (∀ W S v, GsAt W S d v (l.take kn) → Below w.heap.size w W → Calls Tryz.prog 15 #[.agg #[v]] W fun e w' => e = .returned (.tuple #[.string ⟨(textP (l.take kn)).toArray⟩, .int .i64 0]) ∧ Below W.heap.size W w') := Lib.hid fun W S v hg hb => by
        have := show_any W S d v (l.take kn) hg (fun n hn => HFEW.out n (List.mem_of_mem_take hn)) (by rw [List.length_take]; omega) hr2 (HG.out.below hb)
        rwa [hsl2, hck3] at this
      have HPS : Hid (∀ W, Below w.heap.size w W → Calls Tryz.prog 16 #[.string ⟨(textP (l.take kn)).toArray⟩] W fun e w' => ParseOut W w' e (0, 0, l.take kn)) := Lib.hid fun W hb => by
        have := parse_any placesOf_any placesP_ok.two (textP (l.take kn)) W (by have := textP_short hok2 hr2; omega) (HG.out.below hb)
        rwa [parse_text placesP_rd hok2 hck3] at this
      have htk := textP_take l kn
      have hcnt : (textP l).count 10 = l.length := textP_count (line_no10 placesP_rd hok)
      have hlen := textP_short hok HR.out
      have hlkn : (l.take kn).length = kn := by rw [List.length_take]; omega
      have HLK := Lib.hid hlkn
      generalize textP (l.take kn) = less at *
      obtain ⟨s, hs⟩ : ∃ s, s = textP l := ⟨_, rfl⟩
      rw [← hs] at HS1 htk hcnt hlen
      have hless : less.length ≤ s.length := by rw [htk, List.length_append]; omega
      have hpre : s.take less.length = less := by rw [htk, List.take_left]
      have HPRE := Lib.hid hpre
      have HCNT := Lib.hid hcnt
      have HLEN := Lib.hid hlen
      have HLESS := Lib.hid hless
      clear hok hck2 hsl hok2 hck3 hsl2 hr2 htk hcnt hlen hpre hs hless hck hlkn
      go_wp2_with (first
        | (go_at_call 12; (with_reducible refine HP1.out.mono ?_); rintro e w2 ⟨⟨v2, rfl, hg2⟩, hb2⟩; have HG2 := Lib.hid hg2; have HB2 := Lib.hid (HB1.out.trans (hb2.mono hb1s)); clear hg2 hb2)
        | (go_at_call 15; (with_reducible refine (HS1.out _ _ _ HG2.out HB2.out).mono ?_); rintro e w3 ⟨rfl, hb3⟩; have HB3 := Lib.hid (HB2.out.trans (hb3.mono HB2.out.size)); clear hb3)
        | (go_at_call 12; (with_reducible refine (HP2.out _ HB3.out).mono ?_); rintro e w4 ⟨⟨v4, rfl, hg4⟩, hb4⟩; have HG4 := Lib.hid hg4; have HB4 := Lib.hid (HB3.out.trans (hb4.mono HB3.out.size)); clear hg4 hb4)
        | (go_at_call 15; (with_reducible refine (HS2.out _ _ _ HG4.out HB4.out).mono ?_); rintro e w5 ⟨rfl, hb5⟩; have HB5 := Lib.hid (HB4.out.trans (hb5.mono HB4.out.size)); clear hb5)
        | fail)
      have hsz := size_list s
      have HSZ := Lib.hid hsz
      go_loopw [9] (fun nv wr => ∃ (pos acc : Nat), nv = .int .i64 (acc : Int) ∧ wr.heap[w5.heap.size]? = some (.stringIter ⟨s.toArray⟩ pos) ∧ Hid (Below w5.heap.size w5 wr) ∧ pos ≤ s.length ∧ Hid (acc + (s.drop pos).count 10 = l.length)) (fun _ wr => s.length - wr.iterPos w5.heap.size)
      case atStart => exact ⟨0, 0, rfl, heap_alloc_new w5 _, Lib.hid ((Below.refl _ _).alloc (Nat.le_refl _) _), Nat.zero_le _, Lib.hid (by simpa using HCNT.out)⟩
      case round =>
        obtain ⟨pos, acc, rfl, hit, HBW, hps, HC⟩ := hrel
        have hpos0 := iterPos_of hit
        by_cases hp : pos < s.length
        · have hnx : ∀ ty, (Instr.next (.pointer (some ⟨w5.heap.size, 0, none⟩)) true ty).run Tryz.prog wr = _ := fun ty => Lib.run_next_any_at wr w5.heap.size ⟨s.toArray⟩ pos ty hit (by rw [hsz]; exact hp)
          obtain ⟨hw1, hw2, _⟩ := rune_list s pos hp
          have hcr := count_rune s pos hp
          have hit2 := Lib.iterAt_heap wr w5.heap.size ⟨s.toArray⟩ pos (pos + (Utf8.decode ⟨s.toArray⟩ pos).2) hit
          have hbw2 := Lib.below_iterAt HBW.out (k := w5.heap.size) (Nat.le_refl _) ⟨s.toArray⟩ (pos + (Utf8.decode ⟨s.toArray⟩ pos).2)
          obtain ⟨W1, hW1⟩ : ∃ W1, W1 = wr.iterAt w5.heap.size ⟨s.toArray⟩ (pos + (Utf8.decode ⟨s.toArray⟩ pos).2) := ⟨_, rfl⟩
          rw [← hW1] at hnx hit2 hbw2
          have HB2 := Lib.hid hbw2
          have hcc := HC.out
          rw [hcr] at hcc
          have hgl := get_list s pos hp
          generalize (Utf8.decode ⟨s.toArray⟩ pos).2 = wd at *
          clear hW1 hit hbw2 hcr
          have hh : pos < (ByteArray.mk s.toArray).size := by rw [hsz]; exact hp
          have hgx : (ByteArray.mk s.toArray)[pos]'hh = s[pos] := rfl
          have hacc : acc ≤ 100 := by omega
          by_cases e10 : s[pos] = 10
          · have hq : ((((ByteArray.mk s.toArray)[pos]'hh).toNat : Int) == 10) = true := by rw [hgx, e10]; decide
            rw [if_pos e10] at hcc
            have H9 : Hid (acc + 1 + (s.drop (pos + wd)).count 10 = l.length) := Lib.hid (by omega)
            clear hcc e10 hgl hgx
            go_wp2_with (fail)
            go_roundw
            case rel => exact ⟨pos + wd, acc + 1, by go_num, hit2, HB2, hw2, H9⟩
            case measure => rw [iterPos_of hit2, hpos0]; omega
          · have hq : ((((ByteArray.mk s.toArray)[pos]'hh).toNat : Int) == 10) = false := by
              rw [hgx]
              simp only [beq_eq_false_iff_ne, ne_eq]
              intro e
              exact e10 (UInt8.toNat_inj.1 (by have : (10 : UInt8).toNat = 10 := rfl; omega))
            rw [if_neg e10] at hcc
            have H9 : Hid (acc + (s.drop (pos + wd)).count 10 = l.length) := Lib.hid (by omega)
            clear hcc e10 hgl hgx
            go_wp2_with (fail)
            go_roundw
            case rel => exact ⟨pos + wd, acc, by go_num, hit2, HB2, hw2, H9⟩
            case measure => rw [iterPos_of hit2, hpos0]; omega
        · have hnx : ∀ ty, (Instr.next (.pointer (some ⟨w5.heap.size, 0, none⟩)) true ty).run Tryz.prog wr = _ := fun ty => Lib.run_next_end_at wr w5.heap.size ⟨s.toArray⟩ pos ty hit (by rw [hsz]; exact hp)
          have HAC : Hid (acc = l.length) := Lib.hid (by have := HC.out; rw [List.drop_of_length_le (by omega)] at this; simpa using this)
          have hbw : Below w.heap.size w wr := HB5.out.trans (HBW.out.mono HB5.out.size)
          have HBB := Lib.hid hbw
          obtain ⟨sl, hsl⟩ : ∃ sl, sl = l.length := ⟨_, rfl⟩
          have hacc : (acc : Int) = (sl : Int) := by have := HAC.out; omega
          have hle : (less.length : Int) ≤ (s.length : Int) := by have := HLESS.out; omega
          have hls := size_list less
          have hex := ext_pre HPRE.out
          go_wp2_with (first
            | (go_at_call 16; (with_reducible refine (HPS.out _ HBB.out).mono ?_); rintro e w6 ⟨⟨v6, rfl, hg6⟩, hb6⟩; obtain ⟨A6, c6, rfl⟩ := hg6.form; rw [HLK.out]; have HB6 := Lib.hid (HBB.out.trans (hb6.mono HBB.out.size)); clear hg6 hb6)
            | (go_at_call 11; (with_reducible refine (HAW.out _ (HB6.out.alloc HB6.out.size _)).mono ?_); rintro e w9 ⟨rfl, hb9⟩; have HB9 := Lib.hid ((HB6.out.alloc HB6.out.size _).trans (hb9.mono (HB6.out.alloc HB6.out.size _).size)); clear hb9)
            | fail)
          go_ret
          exact ⟨rfl, HB9.out⟩
    · have hsl : showP l = [] := by unfold showP; rw [if_neg hck]
      rw [hsl] at HS1
      have hce : ((chkAll l).2 != 0) = true := by simp [hck]
      have hce2 : ((chkAll l).2 == 0) = false := by simp [hck]
      generalize (chkAll l).2 = ce at *
      clear hsl hck
      go_wp2_with (first
        | (go_at_call 12; (with_reducible refine HP1.out.mono ?_); rintro e w2 ⟨⟨v2, rfl, hg2⟩, hb2⟩; have HG2 := Lib.hid hg2; have HB2 := Lib.hid (HB1.out.trans (hb2.mono hb1s)); clear hg2 hb2)
        | (go_at_call 15; (with_reducible refine (HS1.out _ _ _ HG2.out HB2.out).mono ?_); rintro e w3 ⟨rfl, hb3⟩; have HB3 := Lib.hid (HB2.out.trans (hb3.mono HB2.out.size)); clear hb3)
        | (go_at_call 11; (with_reducible refine (HAW.out _ HB3.out).mono ?_); rintro e w9 ⟨rfl, hb9⟩; have HB9 := Lib.hid (HB3.out.trans (hb9.mono HB3.out.size)); clear hb9)
        | fail)
      go_ret
      exact ⟨rfl, HB9.out⟩

end Go.Proofs.YtllnamhgnbdkmaaGreatDoor
