/-
Stage 11: Parse.
-/
import Derived.Test.YtllnamhgnbdkmaaGreatDoorYa
set_option linter.unusedVariables false
set_option linter.unusedSimpArgs false
namespace Go.Proofs.YtllnamhgnbdkmaaGreatDoor
open Go.RowKit Go.Shelf
theorem cut10_len (s : List UInt8) : (Lib.cut s [10]).1.length ≤ s.length ∧ (Lib.cut s [10]).2.1.length ≤ s.length := by
  unfold Lib.cut
  split <;> simp <;> omega
theorem cut10_less (s : List UInt8) (h : (Lib.cut s [10]).2.2 = true) (h0 : s ≠ []) : (Lib.cut s [10]).2.1.length < s.length := by
  unfold Lib.cut at h ⊢
  have : 0 < s.length := List.length_pos_iff.2 h0
  split
  · simp; omega
  · rename_i h1; rw [if_neg h1] at h; cases h
theorem cut10_b (s : List UInt8) (w : World) (hs : s.length ≤ 1000000) (hG : Gk w) :
    Calls Tryz.prog 47 #[.string ⟨s.toArray⟩, .string ⟨#[10]⟩] w fun e w' => e = .returned (.tuple #[.string ⟨(Lib.cut s [10]).1.toArray⟩, .string ⟨(Lib.cut s [10]).2.1.toArray⟩, .bool (Lib.cut s [10]).2.2]) ∧ Below w.heap.size w w' := by
  obtain ⟨m, hm⟩ := hG.mx
  have hsz : (ByteArray.mk s.toArray).size = s.length := by simp [ByteArray.size]
  refine (Tryz.strings_Cut ⟨s.toArray⟩ ⟨#[10]⟩ m w (by omega) hm).mono ?_
  rintro e w' ⟨he, n, rfl⟩
  exact ⟨he, bl_drN (Below.refl _ _) n⟩
def ParseOut (w w' : World) (e : Ending) (o : Nat × Int × List Gn) : Prop := (∃ v, e = .returned (.tuple #[.agg #[v], .int .i64 (o.1 : Int), .int .i64 o.2.1]) ∧ GsAt w' (fun b => w.heap.size ≤ b) 6 v o.2.2) ∧ Below w.heap.size w w'
def ParI (q : List UInt8 → Option (List Int)) (s : List UInt8) (k : Nat) (r : List UInt8) (l0 : List Gn) : Prop := ∃ f, r.length ≤ f ∧ rdLines q s.length s = (k + (rdLines q f r).1, (rdLines q f r).2.map (l0 ++ ·)) ∧ ∀ n ∈ l0, ∃ line, lineR q line = some n
theorem ParI.start (q : List UInt8 → Option (List Int)) (s : List UInt8) : ParI q s 0 s [] := ⟨s.length, Nat.le_refl _, by rw [Nat.zero_add]; cases h : rdLines q s.length s with | mk a b => cases b <;> simp, by simp⟩
theorem ParI.stop {q : List UInt8 → Option (List Int)} {s : List UInt8} {k : Nat} {l0 : List Gn} (h : ParI q s k [] l0) : rdLines q s.length s = (k, some l0) := by
  obtain ⟨f, _, h, _⟩ := h
  rw [h]
  cases f <;> simp [rdLines]
theorem ParI.next {q : List UInt8 → Option (List Int)} {s : List UInt8} {k : Nat} {r : List UInt8} {l0 : List Gn} {n : Gn} (h : ParI q s k r l0) (h0 : r ≠ []) (hn : lineR q (Lib.cut r [10]).1 = some n) (hc : (Lib.cut r [10]).2.2 = true) : ParI q s (k + 1) (Lib.cut r [10]).2.1 (l0 ++ [n]) := by
  obtain ⟨f, hf, h, hm⟩ := h
  have hl := cut10_less r hc h0
  cases f with
  | zero => exact absurd (List.length_eq_zero_iff.1 (by omega)) h0
  | succ f =>
    refine ⟨f, by omega, ?_, fun m hmm => ?_⟩
    · rw [h]
      conv => lhs; unfold rdLines
      rw [if_neg h0, hn, hc]
      cases hr : rdLines q f (Lib.cut r [10]).2.1 with
      | mk a b => cases b <;> simp [hr] <;> omega
    · rcases List.mem_append.1 hmm with h | h
      · exact hm m h
      · obtain rfl : m = n := by simpa using h
        exact ⟨_, hn⟩
theorem ParI.fail {q : List UInt8 → Option (List Int)} {s : List UInt8} {k : Nat} {r : List UInt8} {l0 : List Gn} (h : ParI q s k r l0) (h0 : r ≠ []) (hn : lineR q (Lib.cut r [10]).1 = none ∨ (Lib.cut r [10]).2.2 = false) : parseP q s = (k, 40, []) := by
  obtain ⟨f, hf, h, hm⟩ := h
  cases f with
  | zero => exact absurd (List.length_eq_zero_iff.1 (by omega)) h0
  | succ f =>
    have hr : rdLines q (f + 1) r = (0, none) := by
      unfold rdLines
      rw [if_neg h0]
      rcases hn with hn | hn
      · rw [hn]
      · rw [hn]
        cases lineR q (Lib.cut r [10]).1 <;> rfl
    rw [hr] at h
    unfold parseP
    rw [h]
    rfl
def strLen : Value → Nat
  | .string b => b.size
  | _ => 0
theorem NsO.form {w : World} {B d : Nat} {v : Value} {l : List Gn} (h : NsO w B d v l) : ∃ A c, v = .slice A l.length c := by
  obtain ⟨xs, ho, _⟩ := h
  exact own_slice ho
theorem gs_set {w : World} {B b i d : Nat} {v u : Value} {l : List Gn} (h : GsAt w (fun b => B ≤ b) d v l) (hb : b < B) : GsAt (w.setCell ⟨b, i, none⟩ u) (fun b => B ≤ b) d v l :=
  h.move fun k hk hl => ⟨hk, by simpa [World.setCell] using hl, fun o => World.cell?_of_block (Below.heap_setCell w ⟨b, i, none⟩ u k (Nat.ne_of_gt (Nat.lt_of_lt_of_le hb hk)))⟩
theorem gs_nil (w : World) (S : Nat → Prop) (d : Nat) : GsAt w S d (.slice none 0 0) [] := ⟨none, 0, rfl, Nat.le_refl _, fun h => by cases h⟩
theorem gn_new {w1 w2 : World} {B : Nat} {nv v : Value} {n : Gn} {l : List Gn} {o : Obj} (h : GnAt w2 (fun b => w1.heap.size ≤ b) 6 v n) (ho : NsO w1 B 6 nv l) (hB : B ≤ w1.heap.size) : GnAt (w2.alloc o) (fun b => B ≤ b ∧ some b ≠ nv.ownBlock) 6 v n :=
  (h.below ((Below.refl _ _).alloc (Nat.le_refl _) o)).move fun b hb hl => ⟨⟨by omega, fun e => by have := (ho.low e.symm).2; omega⟩, hl, fun _ => rfl⟩
theorem results_parse {fn : Func} {tm : Array Value} {W : World} {b : Nat} {x u1 u2 : Value} (hf : fn.results = #[.cell 2 27, .tmp 3, .tmp 4]) (ht : tm[2]? = some (.pointer (some ⟨b, 0, none⟩))) (h1 : tm[3]? = some u1) (h2 : tm[4]? = some u2) (hx : W.heap[b]? = some (.cells #[x] 27 (0, 0))) :
    Sem.run Tryz.prog (results fn tm) W = .ok (.tuple #[.agg #[x], u1, u2]) W := by
  have s0 := cellN (i := 0) (x := x) hx rfl
  simp [results, hf, go_sem, ht, h1, h2, s0]
theorem box_set {W : World} {b : Nat} {x u : Value} (h : W.heap[b]? = some (.cells #[x] 27 (0, 0))) : (W.setCell ⟨b, 0, none⟩ u).heap[b]? = some (.cells #[u] 27 (0, 0)) := set_block h
set_option maxRecDepth 100000 in
set_option maxHeartbeats 4000000 in
theorem parse_any {q : List UInt8 → Option (List Int)} (hq : PlacesOk q) (hq2 : ∀ line n, lineR q line = some n → n.ins.length ≤ 1000000 ∧ n.side.length ≤ 1000000) (s : List UInt8) (w : World) (hs : s.length ≤ 1000000) (hG : Gk w) :
    Calls Tryz.prog 16 #[.string ⟨s.toArray⟩] w fun e w' => ParseOut w w' e (parseP q s) := by
  have HQ := Lib.hid hq
  have HQ2 := Lib.hid hq2
  have HG := Lib.hid hG
  have HS := Lib.hid hs
  have HA0 : Hid (Below w.heap.size w (w.alloc (.cells #[.slice none 0 0] 27))) := Lib.hid (bl_al (Below.refl _ _) _)
  have HA1 := Lib.hid (heap_alloc_new w (.cells #[.slice none 0 0] 27))
  clear hq hq2 hG hs
  go_enter Tryz.func16, Tryz.ntmps16
  go_wp2_with (fail)
  go_loopw [3, 5, 6] (fun av nv rv wr => ∃ (k : Nat) (r : List UInt8) (l0 : List Gn), av = .int .i64 (k : Int) ∧ rv = .string ⟨r.toArray⟩ ∧ k + r.length ≤ s.length ∧ Hid (ParI q s k r l0) ∧ Hid (NsO wr (w.heap.size + 1) 6 nv (l0.take 33)) ∧ Hid (Below w.heap.size w wr) ∧ Hid (wr.heap[w.heap.size]? = some (.cells #[.slice none 0 0] 27 (0, 0)))) (fun _ _ rv _ => strLen rv)
  case atStart => exact ⟨0, s, [], rfl, rfl, by omega, Lib.hid (ParI.start q s), Lib.hid (NsO.nil _ _ _), HA0, HA1⟩
  case round =>
    obtain ⟨k, r, l0, rfl, rfl, hkr, HI, HO, HB, HPB⟩ := hrel
    clear HA0 HA1
    have hsL := HS.out
    have hwl : w.heap.size < wr.heap.size := cell_lt HPB.out
    by_cases h0 : r = []
    · subst h0
      have HST := Lib.hid HI.out.stop
      have HFEW : Hid (FewG (l0.take 33)) := Lib.hid fun n hn => by
        obtain ⟨f, _, _, hm⟩ := HI.out
        obtain ⟨line, hl⟩ := hm n (List.mem_of_mem_take hn)
        exact HQ2.out line n hl
      have HPP : Hid (parseP q s = if (chkAll (l0.take 33)).2 = 0 then (0, 0, l0.take 33) else ((chkAll (l0.take 33)).1, (chkAll (l0.take 33)).2, [])) := Lib.hid (by unfold parseP; rw [HST.out])
      have HLL : Hid ((l0.take 33).length ≤ 1000000) := Lib.hid (by rw [List.length_take]; omega)
      clear HI HST
      generalize l0.take 33 = L at *
      obtain ⟨Av, cv, rfl⟩ := HO.out.form
      have hg5 := gs_set (i := 0) (u := .slice Av L.length cv) HO.out.gs (Nat.lt_succ_self w.heap.size)
      have hb5 := bl_set (i := 0) (v := .slice Av L.length cv) HB.out (Nat.le_refl _)
      have HCK := Lib.hid (checkAll_any _ _ 6 _ L hg5 HFEW.out HLL.out (HG.out.below hb5))
      have HG5 := Lib.hid hg5
      have HB5 := Lib.hid hb5
      have p0 := cellN (i := 0) (x := .slice none 0 0) HPB.out rfl; have p1 := frozN (i := 0) HPB.out; have p2 := cell_lt HPB.out
      clear hg5 hb5
      by_cases hz : (chkAll L).2 = 0
      · have e2 : ((chkAll L).2 != 0) = false := by simp [hz]
        have HP : Hid (parseP q s = (0, 0, L)) := Lib.hid (by rw [HPP.out, if_pos hz])
        clear hz
        go_wp2_with (first
          | (go_at_call 13; (with_reducible refine HCK.out.mono ?_); rintro e w6 ⟨rfl, hb6⟩; have hx6 := bl_blk hb6 (box_set (u := .slice Av L.length cv) HPB.out); have q0 := cellN (i := 0) (x := .slice Av L.length cv) hx6 rfl; have q1 := frozN (i := 0) hx6; have q2 := cell_lt hx6; have HX6 := Lib.hid hx6; have HB6 := Lib.hid (bl_tr HB5.out hb6); have HG6 := Lib.hid (HG5.out.below hb6); clear hx6 hb6)
          | fail)
        refine bodyPost_ret (v := .tuple #[.agg #[.slice Av L.length cv], .int .i64 0, .int .i64 0]) (results_parse Tryz.results16 rfl rfl rfl (box_set HX6.out)) rfl ?_
        rw [HP.out]
        exact ⟨⟨_, rfl, (gs_set HG6.out (Nat.lt_succ_self _)).move fun b hb hl => ⟨by omega, hl, fun _ => rfl⟩⟩, bl_set HB6.out (Nat.le_refl _)⟩
      · have e2 : ((chkAll L).2 != 0) = true := by simp [hz]
        have HP : Hid (parseP q s = ((chkAll L).1, (chkAll L).2, [])) := Lib.hid (by rw [HPP.out, if_neg hz])
        clear hz
        go_wp2_with (first
          | (go_at_call 13; (with_reducible refine HCK.out.mono ?_); rintro e w6 ⟨rfl, hb6⟩; have hx6 := bl_blk hb6 (box_set (u := .slice Av L.length cv) HPB.out); have q0 := cellN (i := 0) (x := .slice Av L.length cv) hx6 rfl; have q1 := frozN (i := 0) hx6; have q2 := cell_lt hx6; have HX6 := Lib.hid hx6; have HB6 := Lib.hid (bl_tr HB5.out hb6); have HG6 := Lib.hid (HG5.out.below hb6); clear hx6 hb6)
          | fail)
        refine bodyPost_ret (v := .tuple #[.agg #[.slice none 0 0], .int .i64 ((chkAll L).1 : Int), .int .i64 (chkAll L).2]) (results_parse Tryz.results16 rfl rfl rfl (box_set HX6.out)) rfl ?_
        rw [HP.out]
        exact ⟨⟨_, rfl, gs_nil _ _ _⟩, bl_set HB6.out (Nat.le_refl _)⟩
    · have e1 : (r == []) = false := by simpa using h0
      have HRL : Hid (r.length ≤ 1000000) := Lib.hid (by omega)
      have hcl := cut10_len r
      have hcs := cut10_less r
      have hnx := fun n => HI.out.next (n := n) h0
      have hfl := HI.out.fail h0
      have hcb := fun W hg => Lib.hid (cut10_b r W HRL.out hg)
      generalize Lib.cut r [10] = cr at *
      obtain ⟨line, behind, ended⟩ := cr
      dsimp only at hcl hcs hnx hfl hcb
      have hbl : ended = true → behind.length < r.length := fun h => hcs h h0
      have HLL : Hid (line.length ≤ 1000000) := Lib.hid (by omega)
      have HNX := Lib.hid hnx
      have HFL := Lib.hid hfl
      clear hcl hcs hnx hfl h0 HI
      cases hn : lineR q line with
      | none =>
        have HP : Hid (parseP q s = (k, 40, [])) := Lib.hid (HFL.out (Or.inl hn))
        have HLN := Lib.hid hn
        clear hn HNX HFL hbl
        go_wp2_with (first
          | (go_at_call 47; (with_reducible refine (hcb _ (HG.out.below HB.out)).out.mono ?_); rintro e w1 ⟨rfl, hb1⟩; have HB1 := Lib.hid (bl_tr HB.out hb1); have HO1 := Lib.hid (HO.out.keep hb1); have HP1 := Lib.hid (bl_blk hb1 HPB.out); have hl1 := readLine_any HQ.out line w1 HLL.out (HG.out.below HB1.out); rw [HLN.out] at hl1; have HL1 := Lib.hid hl1; clear hb1 hl1)
          | (go_at_call 48; (with_reducible refine HL1.out.mono ?_); rintro e w2 ⟨⟨n, IA, SA, A, ic, sc, c, rfl, hv, hgn⟩, hb2⟩; unfold Gn.val; have HB2 := Lib.hid (bl_tr HB1.out hb2); have HP2 := Lib.hid (bl_blk hb2 HP1.out); have hp2 := HP2.out; have p0 := cellN (i := 0) (x := .slice none 0 0) hp2 rfl; have p1 := frozN (i := 0) hp2; have p2 := cell_lt hp2; clear hv hgn hb2 hp2)
          | fail)
        refine bodyPost_ret (v := .tuple #[.agg #[.slice none 0 0], .int .i64 (k : Int), .int .i64 40]) (results_parse Tryz.results16 rfl rfl rfl (alloc_old (box_set HP2.out))) rfl ?_
        rw [HP.out]
        exact ⟨⟨_, rfl, gs_nil _ _ _⟩, bl_al (bl_set HB2.out (Nat.le_refl _)) _⟩
      | some m =>
        have HLN := Lib.hid hn
        cases ended with
        | false =>
          have HP : Hid (parseP q s = (k, 40, [])) := Lib.hid (HFL.out (Or.inr rfl))
          clear hn HNX HFL hbl
          go_wp2_with (first
            | (go_at_call 47; (with_reducible refine (hcb _ (HG.out.below HB.out)).out.mono ?_); rintro e w1 ⟨rfl, hb1⟩; have HB1 := Lib.hid (bl_tr HB.out hb1); have HO1 := Lib.hid (HO.out.keep hb1); have HP1 := Lib.hid (bl_blk hb1 HPB.out); have hl1 := readLine_any HQ.out line w1 HLL.out (HG.out.below HB1.out); rw [HLN.out] at hl1; have HL1 := Lib.hid hl1; clear hb1 hl1)
            | (go_at_call 48; (with_reducible refine HL1.out.mono ?_); rintro e w2 ⟨⟨n, IA, SA, A, ic, sc, c, rfl, hv, hgn⟩, hb2⟩; unfold Gn.val; have HB2 := Lib.hid (bl_tr HB1.out hb2); have HP2 := Lib.hid (bl_blk hb2 HP1.out); have hp2 := HP2.out; have p0 := cellN (i := 0) (x := .slice none 0 0) hp2 rfl; have p1 := frozN (i := 0) hp2; have p2 := cell_lt hp2; clear hv hgn hb2 hp2)
            | fail)
          refine bodyPost_ret (v := .tuple #[.agg #[.slice none 0 0], .int .i64 (k : Int), .int .i64 40]) (results_parse Tryz.results16 rfl rfl rfl (alloc_old (box_set HP2.out))) rfl ?_
          rw [HP.out]
          exact ⟨⟨_, rfl, gs_nil _ _ _⟩, bl_al (bl_set HB2.out (Nat.le_refl _)) _⟩
        | true =>
          have hbl := hbl rfl
          have HI1 := Lib.hid (HNX.out m hn rfl)
          clear hn HNX HFL
          rcases Nat.lt_or_ge l0.length 33 with h33 | h33
          · have HLE : Hid ((l0.take 33).length ≤ 32) := Lib.hid (by rw [List.length_take]; omega)
            have HTK : Hid ((l0 ++ [m]).take 33 = l0.take 33 ++ [m]) := Lib.hid (by rw [List.take_of_length_le (by simp; omega), List.take_of_length_le (by omega)])
            clear h33
            go_wp2_with (first
              | (go_at_call 47; (with_reducible refine (hcb _ (HG.out.below HB.out)).out.mono ?_); rintro e w1 ⟨rfl, hb1⟩; have HB1 := Lib.hid (bl_tr HB.out hb1); have HO1 := Lib.hid (HO.out.keep hb1); have hs1 := hb1.size; have HP1 := Lib.hid (bl_blk hb1 HPB.out); have hl1 := readLine_any HQ.out line w1 HLL.out (HG.out.below HB1.out); rw [HLN.out] at hl1; have HL1 := Lib.hid hl1; clear hb1 hl1)
              | (go_at_call 48; (with_reducible refine HL1.out.mono ?_); rintro e w2 ⟨⟨n, IA, SA, A, ic, sc, c, rfl, hv, hgn⟩, hb2⟩; unfold Gn.val; have HB2 := Lib.hid (bl_tr HB1.out hb2); have HP2 := Lib.hid (bl_blk hb2 HP1.out); have hp2 := HP2.out; have p0 := cellN (i := 0) (x := .slice none 0 0) hp2 rfl; have p1 := frozN (i := 0) hp2; have p2 := cell_lt hp2; obtain rfl : n = m := hv m rfl; have HO2 := Lib.hid (HO1.out.keep hb2); have HGN := Lib.hid hgn; clear hv hgn hb2 hp2)
              | (go_at_call 49; (with_reducible refine (add_any _ (w.heap.size + 1) 6 _ _ n IA SA A ic sc c (HO2.out.keep (bl_al (Below.refl _ _) _)) HLE.out (by have := HP2.out; have := cell_lt HP2.out; rw [World.size_alloc]; omega) (gn_new HGN.out HO1.out (by omega))).mono ?_); rintro e w3 ⟨v3, rfl, ho3, hb3⟩; have HO3 := Lib.hid ho3; have HB3 : Hid (Below w.heap.size w w3) := Lib.hid ((bl_al HB2.out _).trans (hb3.mono (Nat.le_succ _))); have HP3 := Lib.hid ((hb3.block w.heap.size (Nat.lt_succ_self _)).trans (alloc_old HP2.out)); clear ho3 hb3)
              | fail)
            go_roundw
            case rel => exact ⟨k + 1, behind, l0 ++ [n], by go_num, rfl, by omega, HI1, Lib.hid (by rw [HTK.out]; exact HO3.out), HB3, HP3⟩
            case measure => simp [strLen, ByteArray.size]; omega
          · have HLE : Hid (33 ≤ (l0.take 33).length) := Lib.hid (by rw [List.length_take]; omega)
            have HTK : Hid ((l0 ++ [m]).take 33 = l0.take 33) := Lib.hid (by rw [List.take_append_of_le_length h33])
            obtain ⟨Av, cv, hnv⟩ := HO.out.form
            rw [show (l0.take 33).length = 33 by rw [List.length_take]; omega] at hnv HLE
            subst hnv
            clear h33
            go_wp2_with (first
              | (go_at_call 47; (with_reducible refine (hcb _ (HG.out.below HB.out)).out.mono ?_); rintro e w1 ⟨rfl, hb1⟩; have HB1 := Lib.hid (bl_tr HB.out hb1); have HO1 := Lib.hid (HO.out.keep hb1); have hs1 := hb1.size; have HP1 := Lib.hid (bl_blk hb1 HPB.out); have hl1 := readLine_any HQ.out line w1 HLL.out (HG.out.below HB1.out); rw [HLN.out] at hl1; have HL1 := Lib.hid hl1; clear hb1 hl1)
              | (go_at_call 48; (with_reducible refine HL1.out.mono ?_); rintro e w2 ⟨⟨n, IA, SA, A, ic, sc, c, rfl, hv, hgn⟩, hb2⟩; unfold Gn.val; have HB2 := Lib.hid (bl_tr HB1.out hb2); have HP2 := Lib.hid (bl_blk hb2 HP1.out); have hp2 := HP2.out; have p0 := cellN (i := 0) (x := .slice none 0 0) hp2 rfl; have p1 := frozN (i := 0) hp2; have p2 := cell_lt hp2; obtain rfl : n = m := hv m rfl; have HO2 := Lib.hid (HO1.out.keep hb2); have HGN := Lib.hid hgn; clear hv hgn hb2 hp2)
              | (go_at_call 49; (with_reducible refine (add_many _ Av _ cv n IA SA A ic sc c HLE.out).mono ?_); rintro e w3 ⟨rfl, hb3⟩; have HO3 := Lib.hid ((HO2.out.keep (bl_al (Below.refl _ _) _)).keep hb3); have HB3 : Hid (Below w.heap.size w w3) := Lib.hid (bl_tr (bl_al HB2.out _) hb3); have HP3 := Lib.hid (bl_blk hb3 (alloc_old HP2.out)); clear hb3)
              | fail)
            go_roundw
            case rel => exact ⟨k + 1, behind, l0 ++ [n], by go_num, rfl, by omega, HI1, Lib.hid (by rw [HTK.out]; exact HO3.out), HB3, HP3⟩
            case measure => simp [strLen, ByteArray.size]; omega
end Go.Proofs.YtllnamhgnbdkmaaGreatDoor
