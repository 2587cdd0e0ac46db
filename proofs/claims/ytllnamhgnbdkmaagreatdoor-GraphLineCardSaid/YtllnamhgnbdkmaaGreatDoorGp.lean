/-
Stage 11: the document's Parse.
-/
import Derived.Test.YtllnamhgnbdkmaaGreatDoorGm
import Derived.Test.YtllnamhgnbdkmaaGreatDoorRd
import Derived.Test.YtllnamhgnbdkmaaGreatDoorRf
set_option linter.unusedVariables false
set_option linter.unusedSimpArgs false
namespace Go.Proofs.YtllnamhgnbdkmaaGreatDoor
open Go.RowKit Go.Shelf Go.Sort
theorem NsR.form {w : World} {B d : Nat} {v : Value} {l : List Gn} (h : NsR w B d v l) : ∃ A c, v = .slice A l.length c := by
  obtain ⟨xs, ho, _⟩ := h
  exact own_slice ho
theorem gn_newR {w1 w2 : World} {B : Nat} {nv v : Value} {n : Gn} {l : List Gn} (h : GnAt w2 (fun b => w1.heap.size ≤ b) 6 v n) (ho : NsR w1 B 6 nv l) : GnAt w2 (fun b => some b ≠ nv.ownBlock) 6 v n :=
  h.move fun b hb hl => ⟨fun e => by have h1 : w1.heap.size ≤ b := hb; have := (ho.low e.symm).2; omega, hl, fun _ => rfl⟩
theorem box_two (w : World) (o : Obj) (o2 : Obj) : ((w.alloc o).alloc o2).heap[w.heap.size + 1]? = some o2 := by
  have := heap_alloc_new (w.alloc o) o2
  rwa [World.size_alloc] at this
def DocOut (w w' : World) (e : Ending) (o : Nat × Int × List Gn) : Prop := (∃ v, e = .returned (.tuple #[v, .int .i64 (o.1 : Int), .int .i64 o.2.1]) ∧ GsAt w' (fun _ => True) 6 v o.2.2) ∧ Below w.heap.size w w'
set_option maxRecDepth 100000 in
set_option maxHeartbeats 8000000 in
theorem rdparse_any (s : List UInt8) (w : World) (hs : s.length ≤ 800000) :
    Calls Tryz.prog 26 #[.string ⟨s.toArray⟩] w fun e w' => DocOut w w' e (parseP placesP s) := by
  obtain ⟨i0, hi, hq0, hq1, hq2⟩ := info_parts infoR
  go_enter Tryz.func26, Tryz.ntmps26
  go_wp2_with (fail)
  go_loopw [0, 5] (fun sv ov wr => ∃ (r : List UInt8) (l0 : List Gn), sv = .string ⟨r.toArray⟩ ∧ r.length + l0.length ≤ s.length ∧ Hid (ParI placesP s l0.length r l0) ∧ Hid (NsR wr w.heap.size 6 ov l0) ∧ Hid (Below w.heap.size w wr)) (fun sv _ _ => strLen sv)
  case atStart => exact ⟨s, [], rfl, by simp, Lib.hid (ParI.start _ _), Lib.hid (NsR.nil _ _ _), Lib.hid (Below.refl _ _)⟩
  case round =>
    obtain ⟨r, l0, rfl, hrl, HI, HO, HB⟩ := hrel
    have hrz : (ByteArray.mk r.toArray).size = r.length := by simp [ByteArray.size]
    have hwsz := HB.out.size
    by_cases h0 : r = []
    · subst h0
      have HP := Lib.hid (parseP_of HI.out.stop)
      have hsm : ∀ n ∈ l0, SmN n := fun n hn => by
        obtain ⟨f, _, _, hm⟩ := HI.out
        obtain ⟨line, hl⟩ := hm n hn
        exact lineR_small hl
      have HCK := Lib.hid (rcheck_any wr (fun _ => True) 6 _ l0 HO.out.gs hsm (by simp at hrl; omega))
      have HGS := Lib.hid HO.out.gs
      have e1 : ¬ (0 : Int) < (0 : Int) := by omega
      clear hsm hrz HI
      obtain ⟨OA, oc, rfl⟩ := HO.out.form
      by_cases hz : (chkAll l0).2 = 0
      · have hze : ((chkAll l0).2 != 0) = false := by simp [hz]
        have HE : Hid (parseP placesP s = (0, 0, l0)) := Lib.hid (by rw [HP.out, if_pos hz])
        clear hz HP
        go_wp2_with (first
          | (go_at_call 14; (with_reducible refine HCK.out.mono ?_); rintro e w2 ⟨rfl, hb2⟩; have HG2 := Lib.hid (HGS.out.below hb2); have HB2 := Lib.hid (HB.out.trans (hb2.mono HB.out.size)); clear hb2)
          | fail)
        refine bodyPost_ret (v := .tuple #[.slice OA l0.length oc, .int .i64 0, .int .i64 0]) (by simp [results, Tryz.results26, go_sem]) rfl ?_
        rw [HE.out]
        exact ⟨⟨_, rfl, HG2.out⟩, HB2.out⟩
      · have hze : ((chkAll l0).2 != 0) = true := by simp [hz]
        have HE : Hid (parseP placesP s = ((chkAll l0).1, (chkAll l0).2, [])) := Lib.hid (by rw [HP.out, if_neg hz])
        clear hz HP
        go_wp2_with (first
          | (go_at_call 14; (with_reducible refine HCK.out.mono ?_); rintro e w2 ⟨rfl, hb2⟩; have HB2 := Lib.hid (HB.out.trans (hb2.mono HB.out.size)); clear hb2)
          | fail)
        refine bodyPost_ret (v := .tuple #[.slice none 0 0, .int .i64 ((chkAll l0).1 : Int), .int .i64 (chkAll l0).2]) (by simp [results, Tryz.results26, go_sem]) rfl ?_
        rw [HE.out]
        exact ⟨⟨_, rfl, gs_nil _ _ _⟩, HB2.out⟩
    · have hrp : 0 < r.length := List.length_pos_iff.2 h0
      have e1 : (0 : Int) < (r.length : Int) := by omega
      have HCU := Lib.hid fun W => rcut_any r 10 W (by omega)
      have hcl := cutR_le r 10
      have hlt := cutR_lt r 10
      have hnx := fun n => HI.out.next (n := n) h0
      have hfl := HI.out.fail h0
      obtain ⟨line, r2, ok, hcut⟩ : ∃ line r2 ok, Lib.cut r [10] = (line, r2, ok) := ⟨_, _, _, rfl⟩
      rw [hcut] at HCU hcl hlt hnx hfl
      dsimp only at HCU hcl hlt hnx hfl
      rw [show ((10 : UInt8).toNat : Int) = 10 from rfl] at HCU
      have HRE := Lib.hid fun W => rread_any line W (by omega)
      have HNX := Lib.hid hnx
      have HFL := Lib.hid hfl
      have HCL := Lib.hid hcl
      have HLT := Lib.hid hlt
      have HRZ := Lib.hid hrz
      clear hcl hlt hnx hfl hcut HI h0 hrz
      obtain ⟨OA, oc, rfl⟩ := HO.out.form
      generalize hlo : lineR placesP line = o at *
      cases o with
      | none =>
        have HE := Lib.hid (HFL.out (.inl rfl))
        clear HFL HNX hlo
        cases ok with
        | false =>
          go_wp2_with (first
            | (go_at_call 58; (with_reducible refine (HCU.out _).mono ?_); rintro e w1 ⟨rfl, nd, hw1⟩; have hb1 : Below wr.heap.size wr w1 := (congrArg (fun W : World => Below wr.heap.size wr W) hw1).mpr (bl_drn (Below.refl _ _) nd); have HB1 := Lib.hid (HB.out.trans (hb1.mono HB.out.size)); have HO1 := Lib.hid (HO.out.keep hb1); clear hw1 hb1)
            | (go_at_call 38; (with_reducible refine (HRE.out _).mono ?_); rintro e w2 ⟨⟨n, IA, SA, A, ic, sc, c, he, hv, hgn⟩, hb2⟩; obtain rfl : e = _ := he; unfold Gn.val; have HB2 := Lib.hid (HB1.out.trans (hb2.mono HB1.out.size)); clear hv hgn hb2)
            | fail)
          refine bodyPost_ret (v := .tuple #[.slice none 0 0, .int .i64 (l0.length : Int), .int .i64 40]) (by simp [results, Tryz.results26, go_sem]) rfl ?_
          rw [HE.out]
          exact ⟨⟨_, rfl, gs_nil _ _ _⟩, bl_al HB2.out _⟩
        | true =>
          go_wp2_with (first
            | (go_at_call 58; (with_reducible refine (HCU.out _).mono ?_); rintro e w1 ⟨rfl, nd, hw1⟩; have hb1 : Below wr.heap.size wr w1 := (congrArg (fun W : World => Below wr.heap.size wr W) hw1).mpr (bl_drn (Below.refl _ _) nd); have HB1 := Lib.hid (HB.out.trans (hb1.mono HB.out.size)); have HO1 := Lib.hid (HO.out.keep hb1); clear hw1 hb1)
            | (go_at_call 38; (with_reducible refine (HRE.out _).mono ?_); rintro e w2 ⟨⟨n, IA, SA, A, ic, sc, c, he, hv, hgn⟩, hb2⟩; obtain rfl : e = _ := he; unfold Gn.val; have HB2 := Lib.hid (HB1.out.trans (hb2.mono HB1.out.size)); clear hv hgn hb2)
            | fail)
          refine bodyPost_ret (v := .tuple #[.slice none 0 0, .int .i64 (l0.length : Int), .int .i64 40]) (by simp [results, Tryz.results26, go_sem]) rfl ?_
          rw [HE.out]
          exact ⟨⟨_, rfl, gs_nil _ _ _⟩, bl_al HB2.out _⟩
      | some m =>
        cases ok with
        | false =>
          have HE := Lib.hid (HFL.out (.inr rfl))
          clear HFL HNX hlo
          go_wp2_with (first
            | (go_at_call 58; (with_reducible refine (HCU.out _).mono ?_); rintro e w1 ⟨rfl, nd, hw1⟩; have hb1 : Below wr.heap.size wr w1 := (congrArg (fun W : World => Below wr.heap.size wr W) hw1).mpr (bl_drn (Below.refl _ _) nd); have HB1 := Lib.hid (HB.out.trans (hb1.mono HB.out.size)); have HO1 := Lib.hid (HO.out.keep hb1); clear hw1 hb1)
            | (go_at_call 38; (with_reducible refine (HRE.out _).mono ?_); rintro e w2 ⟨⟨n, IA, SA, A, ic, sc, c, he, hv, hgn⟩, hb2⟩; obtain rfl : e = _ := he; unfold Gn.val; have HB2 := Lib.hid (HB1.out.trans (hb2.mono HB1.out.size)); clear hv hgn hb2)
            | fail)
          refine bodyPost_ret (v := .tuple #[.slice none 0 0, .int .i64 (l0.length : Int), .int .i64 40]) (by simp [results, Tryz.results26, go_sem]) rfl ?_
          rw [HE.out]
          exact ⟨⟨_, rfl, gs_nil _ _ _⟩, bl_al HB2.out _⟩
        | true =>
          have HI2 := Lib.hid (HNX.out m rfl rfl)
          have HLE := Lib.hid (HLT.out rfl)
          clear HFL HNX hlo
          go_wp2_with (first
            | (go_at_call 58; (with_reducible refine (HCU.out _).mono ?_); rintro e w1 ⟨rfl, nd, hw1⟩; have hb1 : Below wr.heap.size wr w1 := (congrArg (fun W : World => Below wr.heap.size wr W) hw1).mpr (bl_drn (Below.refl _ _) nd); have HB1 := Lib.hid (HB.out.trans (hb1.mono HB.out.size)); have HO1 := Lib.hid (HO.out.keep hb1); clear hw1 hb1)
            | (go_at_call 38; (with_reducible refine (HRE.out _).mono ?_); rintro e w2 ⟨⟨n, IA, SA, A, ic, sc, c, he, hv, hgn⟩, hb2⟩; obtain rfl : n = m := hv m rfl; obtain rfl : e = _ := he; unfold Gn.val; have HB2 := Lib.hid (HB1.out.trans (hb2.mono HB1.out.size)); have hs2 : w.heap.size ≤ w2.heap.size := HB2.out.size; have HGN := Lib.hid (gn_newR hgn HO1.out); obtain ⟨xs, hox, hnn⟩ := (HO1.out.keep hb2).keep (bl_al (bl_al (Below.refl _ _) (.cells #[.int .i64 n.op, .slice IA n.ins.length ic, .slice SA n.side.length sc, .string ⟨n.text.toArray⟩, .int .i64 n.ty.kind, .slice A n.ty.args.length c, .int .i64 n.f0, .int .i64 n.f1, .int .i64 n.f2, .int .i64 n.f3, .int .i64 n.e, .int .i64 n.l, .int .i64 n.lt, .bool n.acc] 51)) (.cells #[.int .i64 n.op, .slice IA n.ins.length ic, .slice SA n.side.length sc, .string ⟨n.text.toArray⟩, .int .i64 n.ty.kind, .slice A n.ty.args.length c, .int .i64 n.f0, .int .i64 n.f1, .int .i64 n.f2, .int .i64 n.f3, .int .i64 n.e, .int .i64 n.l, .int .i64 n.lt, .bool n.acc] 51)); have HOX := Lib.hid hox; have HNN := Lib.hid hnn; clear hv hgn hb2 hox hnn)
            | (at_builtin; refine wpList_append_own_at _ rfl _ _ 22 rfl w.heap.size 51 i0 (.agg #[.int .i64 0, .slice none 0 0, .slice none 0 0, .string ⟨#[]⟩, .int .i64 0, .slice none 0 0, .int .i64 0, .int .i64 0, .int .i64 0, .int .i64 0, .int .i64 0, .int .i64 0, .int .i64 0, .bool false]) 14 168 Tryz.underlying22 hi hq0 hq1 hq2 rfl (by decide) _ l0.length xs rfl HOX.out ⟨w2.heap.size + 1, 0, none⟩ 1 1 [.int .i64 n.op, .slice IA n.ins.length ic, .slice SA n.side.length sc, .string ⟨n.text.toArray⟩, .int .i64 n.ty.kind, .slice A n.ty.args.length c, .int .i64 n.f0, .int .i64 n.f1, .int .i64 n.f2, .int .i64 n.f3, .int .i64 n.e, .int .i64 n.l, .int .i64 n.lt, .bool n.acc] rfl rfl (World.news_of_block (cs := #[.int .i64 n.op, .slice IA n.ins.length ic, .slice SA n.side.length sc, .string ⟨n.text.toArray⟩, .int .i64 n.ty.kind, .slice A n.ty.args.length c, .int .i64 n.f0, .int .i64 n.f1, .int .i64 n.f2, .int .i64 n.f3, .int .i64 n.e, .int .i64 n.l, .int .i64 n.lt, .bool n.acc]) (t := 51) (fr := (0, 0)) (box_two w2 _ _)) (by simp [Value.oneCell']) (by unfold maxLen; omega) (by omega) (by simp; omega) ?_; intro v7 w7 hown7 hg7 _ hat7)
            | fail)
          have HO7 : Hid (NsR w7 w.heap.size 6 v7 (l0 ++ [n])) := Lib.hid (NsR.more HOX.out HNN.out (HGN.out.below (bl_al (bl_al (Below.refl _ _) _) _)) hown7 hg7 (by rcases hat7 with h | h; exact Or.inl h; exact Or.inr ⟨_, h, Nat.le_refl _⟩))
          have HB7 : Hid (Below w.heap.size w w7) := Lib.hid (by
            have hb0 : Below w.heap.size w ((w2.alloc (.cells #[.int .i64 n.op, .slice IA n.ins.length ic, .slice SA n.side.length sc, .string ⟨n.text.toArray⟩, .int .i64 n.ty.kind, .slice A n.ty.args.length c, .int .i64 n.f0, .int .i64 n.f1, .int .i64 n.f2, .int .i64 n.f3, .int .i64 n.e, .int .i64 n.l, .int .i64 n.lt, .bool n.acc] 51)).alloc (.cells #[.int .i64 n.op, .slice IA n.ins.length ic, .slice SA n.side.length sc, .string ⟨n.text.toArray⟩, .int .i64 n.ty.kind, .slice A n.ty.args.length c, .int .i64 n.f0, .int .i64 n.f1, .int .i64 n.f2, .int .i64 n.f3, .int .i64 n.e, .int .i64 n.l, .int .i64 n.lt, .bool n.acc] 51)) := bl_al (bl_al HB2.out _) _
            exact ⟨hg7.os.trans hb0.os, hg7.tape.trans hb0.tape, hg7.output.trans hb0.output, Nat.le_trans hb0.size hg7.size, fun i hi => (hg7.block i (Nat.lt_of_lt_of_le hi hb0.size) (fun e => by have := (HOX.out.lt i e.symm).1; omega)).trans (hb0.block i hi)⟩)
          go_roundw
          case rel => exact ⟨r2, l0 ++ [n], rfl, by have := HLE.out; rw [List.length_append, List.length_singleton]; omega, Lib.hid (by rw [List.length_append]; exact HI2.out), HO7, HB7⟩
          case measure => have := HLE.out; have := HRZ.out; simp [strLen, ByteArray.size]; omega
end Go.Proofs.YtllnamhgnbdkmaaGreatDoor
