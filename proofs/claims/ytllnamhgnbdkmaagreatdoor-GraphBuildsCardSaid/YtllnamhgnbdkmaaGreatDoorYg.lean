/-
Stage 11: has, small.
-/
import Derived.Test.YtllnamhgnbdkmaaGreatDoorYo
import Derived.Test.YtllnamhgnbdkmaaGreatDoorYf
set_option linter.unusedVariables false
set_option linter.unusedSimpArgs false
namespace Go.Proofs.YtllnamhgnbdkmaaGreatDoor
open Go.RowKit Go.Shelf
structure SmN (n : Gn) : Prop where
  ins : n.ins.length ≤ 100
  side : n.side.length ≤ 100
  text : n.text.length ≤ 5000
  ty : Lw.Nar 30 n.ty
def SmlOut (e : Ending) (l : List Gn) : Prop := ∃ b, e = .returned (.bool b) ∧ (b = true → l.length ≤ 100 ∧ ∀ n ∈ l, SmN n)
set_option maxRecDepth 100000 in
set_option maxHeartbeats 4000000 in
theorem small_any (w : World) (S : Nat → Prop) (d : Nat) (v : Value) (l : List Gn) (h : GsAt w S d v l) (hl : l.length ≤ 9223372036854775807) :
    Calls Tryz.prog 10 #[v] w fun e w' => SmlOut e l ∧ Below w.heap.size w w' := by
  obtain ⟨GA, gc, rfl⟩ := h.form
  have H := Lib.hid h
  have HA0 : Hid (Below w.heap.size w (w.alloc (.cells #[.int .i64 5000] 3))) := Lib.hid (bl_al (Below.refl _ _) _)
  have HC0 : Hid ((w.alloc (.cells #[.int .i64 5000] 3)).heap[w.heap.size]? = some (.cells #[.int .i64 5000] 3 (0, 0))) := Lib.hid (heap_alloc_new w _)
  clear h
  by_cases hbig : 100 < l.length
  · have hd : (100 : Int) < (l.length : Int) := by omega
    go_enter Tryz.func10, Tryz.ntmps10
    go_wp2_with (fail)
    go_ret
    exact ⟨⟨false, rfl, fun h => by cases h⟩, HA0.out⟩
  · have hd : ¬ (100 : Int) < (l.length : Int) := by omega
    have HL : Hid (l.length ≤ 100) := Lib.hid (by omega)
    have hl100 : l.length ≤ 100 := by omega
    go_enter Tryz.func10, Tryz.ntmps10
    go_wp2_with (fail)
    go_loopw [11] (fun iv wr => ∃ (j : Nat) (l' : Int), iv = .int .i64 (j : Int) ∧ j ≤ l.length ∧ 0 ≤ l' ∧ l' ≤ 5000 ∧ Hid (∀ n ∈ l.take j, SmN n) ∧ Hid (Below w.heap.size w wr) ∧ Hid (wr.heap[w.heap.size]? = some (.cells #[.int .i64 l'] 3 (0, 0)))) (fun iv _ => l.length - (intOf iv).toNat)
    case atStart => exact ⟨0, 5000, rfl, Nat.zero_le _, by decide, by decide, Lib.hid (by simp), HA0, HC0⟩
    case round =>
      obtain ⟨j, l', rfl, hj, hl0, hl5, HS, HB, HL1⟩ := hrel
      clear HA0 HC0
      by_cases hlt : j < l.length
      · have hat := H.out.at hlt
        have htk : l.take (j + 1) = l.take j ++ [l[j]] := by rw [List.take_add_one, List.getElem?_eq_getElem hlt]; rfl
        have HTK := Lib.hid htk
        clear htk
        generalize l[j] = n at *
        obtain ⟨b, o, rfl, hbl, hS, IA, SA, A, ic, sc, c, hN, a0, a1, a2, a3, a4, a5, a6, a7, a8, a9, a10, a11, a12, a13⟩ := hat
        have a0 := (HB.out.cell (p := ⟨b, o + j * 14, none⟩) hbl).trans a0
        have a1 := (HB.out.cell (p := ⟨b, o + j * 14 + 1, none⟩) hbl).trans a1
        have a2 := (HB.out.cell (p := ⟨b, o + j * 14 + 2, none⟩) hbl).trans a2
        have a3 := (HB.out.cell (p := ⟨b, o + j * 14 + 3, none⟩) hbl).trans a3
        have a4 := (HB.out.cell (p := ⟨b, o + j * 14 + 4, none⟩) hbl).trans a4
        have a5 := (HB.out.cell (p := ⟨b, o + j * 14 + 5, none⟩) hbl).trans a5
        have a6 := (HB.out.cell (p := ⟨b, o + j * 14 + 6, none⟩) hbl).trans a6
        have a7 := (HB.out.cell (p := ⟨b, o + j * 14 + 7, none⟩) hbl).trans a7
        have a8 := (HB.out.cell (p := ⟨b, o + j * 14 + 8, none⟩) hbl).trans a8
        have a9 := (HB.out.cell (p := ⟨b, o + j * 14 + 9, none⟩) hbl).trans a9
        have a10 := (HB.out.cell (p := ⟨b, o + j * 14 + 10, none⟩) hbl).trans a10
        have a11 := (HB.out.cell (p := ⟨b, o + j * 14 + 11, none⟩) hbl).trans a11
        have a12 := (HB.out.cell (p := ⟨b, o + j * 14 + 12, none⟩) hbl).trans a12
        have a13 := (HB.out.cell (p := ⟨b, o + j * 14 + 13, none⟩) hbl).trans a13
        clear hS
        by_cases h1 : 100 < n.ins.length
        · have d1 : (100 : Int) < (n.ins.length : Int) := by omega
          go_wp2_with (fail)
          go_ret
          refine And.intro ⟨false, rfl, fun h => by cases h⟩ (bl_al HB.out _)
        have d1 : ¬ (100 : Int) < (n.ins.length : Int) := by omega
        by_cases h2 : 100 < n.side.length
        · have d2 : (100 : Int) < (n.side.length : Int) := by omega
          go_wp2_with (fail)
          go_ret
          refine And.intro ⟨false, rfl, fun h => by cases h⟩ (bl_al HB.out _)
        have d2 : ¬ (100 : Int) < (n.side.length : Int) := by omega
        have hsz : (ByteArray.mk n.text.toArray).size = n.text.length := by simp [ByteArray.size]
        by_cases h3 : 5000 < n.text.length
        · have d3 : (5000 : Int) < (n.text.length : Int) := by omega
          go_wp2_with (fail)
          go_ret
          refine And.intro ⟨false, rfl, fun h => by cases h⟩ (bl_al HB.out _)
        have d3 : ¬ (5000 : Int) < (n.text.length : Int) := by omega
        have hTN : TyAt (wr.alloc (.cells #[.int .i64 n.op, .slice IA n.ins.length ic, .slice SA n.side.length sc, .string ⟨n.text.toArray⟩, .int .i64 n.ty.kind, .slice A n.ty.args.length c, .int .i64 n.f0, .int .i64 n.f1, .int .i64 n.f2, .int .i64 n.f3, .int .i64 n.e, .int .i64 n.l, .int .i64 n.lt, .bool n.acc] 51)) (fun b => b < w.heap.size) d (.agg #[.int .i64 n.ty.kind, .slice A n.ty.args.length c]) n.ty := by
          obtain ⟨_, _, A2, _, _, c2, e, _, _, h3⟩ := hN
          unfold Gn.val at e
          injection e with e
          simp only [Array.mk.injEq, List.cons.injEq, Value.slice.injEq, and_true, true_and] at e
          obtain ⟨_, _, rfl, rfl⟩ := e
          have h4 : TyAt w (fun b => b < w.heap.size) d (.agg #[.int .i64 n.ty.kind, .slice A n.ty.args.length c]) n.ty := TyAt.move (fun b hb hl => ⟨hl, fun _ => rfl⟩) _ _ _ h3
          exact TyAt.move (fun b hb hl => ⟨hb, fun o => World.cell?_of_block ((bl_al HB.out _).block b hb)⟩) _ _ _ h4
        have hfl := Lw5.flat_any 30 d (fun b => b < w.heap.size) w.heap.size _ n.ty l' (wr.alloc (.cells #[.int .i64 n.op, .slice IA n.ins.length ic, .slice SA n.side.length sc, .string ⟨n.text.toArray⟩, .int .i64 n.ty.kind, .slice A n.ty.args.length c, .int .i64 n.f0, .int .i64 n.f1, .int .i64 n.f2, .int .i64 n.f3, .int .i64 n.e, .int .i64 n.l, .int .i64 n.lt, .bool n.acc] 51)) (by decide) hTN (fun b hb e => by omega) (alloc_old HL1.out) hl0 hl5
        rw [show ((30 : Nat) : Int) = 30 from rfl] at hfl
        have HFL := Lib.hid hfl
        have HN3 : Hid (n.ins.length ≤ 100 ∧ n.side.length ≤ 100 ∧ n.text.length ≤ 5000) := Lib.hid (by omega)
        clear hTN hN hfl h1 h2 h3 hsz
        go_wp2_with (fail)
        refine HFL.out.mono ?_
        rintro e w2 ⟨⟨bb, l2, rfl, hc2, hl2, hl2', hyes⟩, ho2⟩
        have HC2 := Lib.hid hc2
        have HYES := Lib.hid hyes
        have HB2 : Hid (Below w.heap.size w w2) := Lib.hid (only_base (bl_al HB.out _) (Nat.le_refl _) ho2)
        clear hc2 hyes ho2
        rcases bb with _ | _
        · go_wp2_with (fail)
          go_ret
          exact ⟨⟨false, rfl, fun h => by cases h⟩, HB2.out⟩
        · obtain ⟨hz0, hnar⟩ := HYES.out rfl
          go_wp2_with (fail)
          go_roundw
          case rel => exact ⟨j + 1, l2, by go_num, by omega, hz0, by omega, Lib.hid (by rw [HTK.out]; intro m hm; rcases List.mem_append.1 hm with h | h; exact HS.out m h; (obtain rfl : m = n := by simpa using h); exact ⟨HN3.out.1, HN3.out.2.1, HN3.out.2.2, hnar⟩), HB2, HC2⟩
          case measure => simp [intOf]; omega
      · obtain rfl : j = l.length := by omega
        have HE := Lib.hid HS.out
        rw [List.take_length] at HE
        go_wp2_with (fail)
        go_ret
        exact ⟨⟨true, rfl, fun _ => ⟨HL.out, HE.out⟩⟩, HB.out⟩
end Go.Proofs.YtllnamhgnbdkmaaGreatDoor
