/-
Stage 11: the document's nums.
-/
import Derived.Test.YtllnamhgnbdkmaaGreatDoorGc
set_option linter.unusedVariables false
set_option linter.unusedSimpArgs false
namespace Go.Proofs.YtllnamhgnbdkmaaGreatDoor
open Go.RowKit Go.Shelf Go.Sort
def NumI (m : Int) (c : UInt8) (s r : List UInt8) (v : List Int) : Prop := r.length ≤ s.length ∧ numsP m c s = (numsP m c r).map (v ++ ·)
theorem NumI.start (m : Int) (c : UInt8) (s : List UInt8) : NumI m c s s [] := ⟨Nat.le_refl _, by cases numsP m c s <;> rfl⟩
theorem NumI.bad {m : Int} {c : UInt8} {s r : List UInt8} {v : List Int} (h : NumI m c s r v) (hg : goodN (Lib.cut r [c]).1 m = none) : numsP m c s = none := by rw [h.2, numsP_eq, hg]; rfl
theorem NumI.last {m : Int} {c : UInt8} {s r : List UInt8} {v : List Int} {n : Int} (h : NumI m c s r v) (hg : goodN (Lib.cut r [c]).1 m = some n) (hm : (Lib.cut r [c]).2.2 = false) : numsP m c s = some (v ++ [n]) := by rw [h.2, numsP_eq, hg, Option.bind_some, hm]; rfl
theorem NumI.next {m : Int} {c : UInt8} {s r : List UInt8} {v : List Int} {n : Int} (h : NumI m c s r v) (hg : goodN (Lib.cut r [c]).1 m = some n) (hm : (Lib.cut r [c]).2.2 = true) : NumI m c s (Lib.cut r [c]).2.1 (v ++ [n]) := by
  refine ⟨Nat.le_trans (cutR_le r c).2 h.1, ?_⟩
  rw [h.2, numsP_eq m c r, hg, Option.bind_some, if_pos hm]
  cases numsP m c (Lib.cut r [c]).2.1 with
  | none => rfl
  | some l => simp
def strLn : Value → Nat
  | .string b => b.size
  | _ => 0
theorem valD_small {l : List UInt8} (h : ∀ b ∈ l, dig b) (hl : l.length ≤ 7) : valD l < 10000000 := by
  have h1 := valD_lt l h
  have h2 : 10 ^ l.length ≤ 10 ^ 7 := Nat.pow_le_pow_right (by decide) hl
  omega
theorem goodN_bad {k : Nat} {m : Int} (hk : KM k m) {x : List UInt8} (h : ¬ (1 ≤ x.length ∧ x.length ≤ k ∧ ¬ (1 < x.length ∧ x[0]? = some 48) ∧ ∀ b ∈ x, dig b)) : goodN x m = none := by
  cases hg : goodN x m with
  | none => rfl
  | some v => exact absurd (goodN_what hk hg) h
def NumsOut (w w' : World) (e : Ending) : Option (List Int) → Prop
  | some l => ∃ A c, e = .returned (.tuple #[.slice A (l : List Int).length c, .bool true]) ∧ IntsAt w' (fun b => w.heap.size ≤ b) (.slice A l.length c) l
  | none => e = .returned (.tuple #[.slice none 0 0, .bool false])
set_option maxRecDepth 100000 in
set_option maxHeartbeats 4000000 in
theorem rnums_any (k : Nat) (m : Int) (hk : KM k m) (s : List UInt8) (c : UInt8) (w : World) (hs : s.length ≤ 1000000) :
    Calls Tryz.prog 62 #[.string ⟨s.toArray⟩, .int .u8 (c.toNat : Int), .int .i64 (k : Int)] w fun e w' => NumsOut w w' e (numsP m c s) ∧ Below w.heap.size w w' := by
  obtain ⟨i0, hi, hq0, hq1, hq2⟩ := info_parts info3
  have hown0 : w.ownsRow w.heap.size 3 1 (.slice none 0 0) 0 [] := World.ownsRow_nil _ _ _ _
  have HS0 := Lib.hid (NumI.start m c s)
  have hk7 := hk.2.1
  have HK := Lib.hid hk
  clear hk
  go_enter Tryz.func62, Tryz.ntmps62
  go_wp2_with (fail)
  go_loopw [0, 8] (fun sv ov wr => ∃ (r : List UInt8) (v : List Int), sv = .string ⟨r.toArray⟩ ∧ r.length ≤ s.length ∧ Hid (NumI m c s r v) ∧ Hid (wr.ownsRow w.heap.size 3 1 ov v.length (v.map encZ)) ∧ v.length ≤ 1000000 - r.length ∧ Hid (Below w.heap.size w wr)) (fun sv _ _ => strLn sv)
  case atStart => exact ⟨s, [], rfl, Nat.le_refl _, HS0, Lib.hid hown0, by simp, Lib.hid (Below.refl _ _)⟩
  case round =>
    obtain ⟨r, v, rfl, hr, HI, HO, hvl, HB⟩ := hrel
    have hrl : r.length ≤ 1000000 := by omega
    have HCL := cutR_le r c
    have HCT := cutR_lt r c
    have HCU := Lib.hid (rcut_any r c wr hrl)
    have hrz : (ByteArray.mk r.toArray).size = r.length := by simp [ByteArray.size]
    have HRZ := Lib.hid hrz
    have hwsz := HB.out.size
    obtain ⟨x, r2, mo, hcut⟩ : ∃ x r2 mo, Lib.cut r [c] = (x, r2, mo) := ⟨_, _, _, rfl⟩
    have HGB := fun h => HI.out.bad h
    have HGL := fun n h => HI.out.last (n := n) h
    have HGN := fun n h => HI.out.next (n := n) h
    rw [hcut] at HCU HCL HCT HGB HGL HGN
    dsimp only at HCU HCL HCT HGB HGL HGN
    obtain ⟨B, hB, hsz, hget⟩ : ∃ B : ByteArray, ByteArray.mk x.toArray = B ∧ B.size = x.length ∧ ∀ j (h : j < B.size) (h2 : j < x.length), B[j] = x[j] := ⟨_, rfl, by simp [ByteArray.size], fun j h h2 => by simp [ByteArray.getElem_eq_getElem_data]⟩
    rw [hB] at HCU
    have hbB : B.size ≤ 1000000 := by omega
    have HSZ := Lib.hid hsz
    have HGT := Lib.hid hget
    have HBD := Lib.hid HGB
    have HLS := Lib.hid HGL
    have HNX := Lib.hid HGN
    have HL := Lib.hid HCL
    have HLT := Lib.hid HCT
    clear hcut hB hsz hget HGB HGL HGN HCL HCT hrz
    by_cases p1 : B.size < 1
    · have HE : Hid (numsP m c s = none) := Lib.hid (HBD.out (goodN_bad HK.out (fun h => by have := HSZ.out; omega)))
      have d1 : (B.size : Int) < 1 := by omega
      go_wp2_with (first
        | (go_at_call 58; (with_reducible refine HCU.out.mono ?_); rintro e w1 ⟨rfl, nd, rfl⟩)
        | fail)
      go_ret2
      rw [HE.out]
      exact ⟨rfl, bl_drN HB.out nd⟩
    have d1 : ¬ (B.size : Int) < 1 := by omega
    by_cases p2 : k < B.size
    · have HE : Hid (numsP m c s = none) := Lib.hid (HBD.out (goodN_bad HK.out (fun h => by have := HSZ.out; omega)))
      have d2 : (k : Int) < (B.size : Int) := by omega
      go_wp2_with (first
        | (go_at_call 58; (with_reducible refine HCU.out.mono ?_); rintro e w1 ⟨rfl, nd, rfl⟩)
        | fail)
      go_ret2
      rw [HE.out]
      exact ⟨rfl, bl_drN HB.out nd⟩
    have d2 : ¬ (k : Int) < (B.size : Int) := by omega
    have hb0 : B[0] = x[0]'(by have := HSZ.out; omega) := HGT.out 0 (by omega) (by have := HSZ.out; omega)
    have hx0 : x[0]? = some B[0] := by rw [hb0]; exact List.getElem?_eq_getElem _
    have HX0 := Lib.hid hx0
    clear hb0 hx0
    by_cases p3 : 1 < B.size
    · have d3 : (1 : Int) < (B.size : Int) := by omega
      by_cases p4 : B[0] = 48
      · have HE : Hid (numsP m c s = none) := Lib.hid (HBD.out (goodN_bad HK.out (fun h => h.2.2.1 ⟨by have := HSZ.out; omega, by rw [HX0.out, p4]⟩)))
        have e0 : ((B[0].toNat : Int) == 48) = true := by rw [p4]; rfl
        go_wp2_with (first
          | (go_at_call 58; (with_reducible refine HCU.out.mono ?_); rintro e w1 ⟨rfl, nd, rfl⟩)
          | fail)
        go_ret2
        rw [HE.out]
        exact ⟨rfl, bl_drN HB.out nd⟩
      have HP4 : Hid (¬ (1 < x.length ∧ x[0]? = some 48)) := Lib.hid (fun h => by rw [HX0.out] at h; exact p4 (Option.some.inj h.2))
      have e0 : ((B[0].toNat : Int) == 48) = false := by
        simp
        intro e
        exact p4 (UInt8.toNat_inj.1 (by have : (48 : UInt8).toNat = 48 := rfl; omega))
      clear p4
      go_wp2_with (first
        | (go_at_call 58; (with_reducible refine HCU.out.mono ?_); rintro e w1 ⟨rfl, nd, rfl⟩)
        | fail)
      go_loopw [12, 13] (fun nv iv wi => ∃ j : Nat, nv = .int .i64 (valD (x.take j) : Int) ∧ iv = .int .i64 (j : Int) ∧ j ≤ B.size ∧ Hid (∀ b ∈ x.take j, dig b) ∧ wi = wr.drewN nd) (fun _ iv _ => B.size - (intOf iv).toNat)
      case atStart => exact ⟨0, rfl, rfl, Nat.zero_le _, Lib.hid (by simp), rfl⟩
      case round =>
        obtain ⟨j, rfl, rfl, hj, HD, rfl⟩ := hrel
        by_cases hlt : j < B.size
        · have hjl : (j : Int) < (B.size : Int) := by omega
          have hjx : j < x.length := by have := HSZ.out; omega
          have hbj := HGT.out j hlt hjx
          have htk : x.take (j + 1) = x.take j ++ [B[j]] := by rw [List.take_add_one, List.getElem?_eq_getElem hjx, hbj]; rfl
          have hmem : B[j] ∈ x := by rw [hbj]; exact List.getElem_mem hjx
          have hb8 : B[j].toNat ≤ 255 := by have := B[j].toNat_lt; omega
          by_cases hdg : dig B[j]
          · have HD2 : Hid (∀ b ∈ x.take (j + 1), dig b) := Lib.hid (by
              rw [htk]
              intro b hb
              rcases List.mem_append.1 hb with h | h
              · exact HD.out b h
              · obtain rfl : b = B[j] := by simpa using h
                exact hdg)
            have hv : valD (x.take (j + 1)) = valD (x.take j) * 10 + (B[j].toNat - 48) := by rw [htk, valD_snoc]
            have hsm : valD (x.take (j + 1)) < 10000000 := valD_small HD2.out (by rw [List.length_take]; omega)
            have HVV := Lib.hid hv
            have HSM := Lib.hid hsm
            unfold dig at hdg
            have h48 : ¬ (B[j].toNat : Int) < 48 := by omega
            have h57 : ¬ (57 : Int) < (B[j].toNat : Int) := by omega
            have hvs : valD (x.take j) < 1000000 := by omega
            generalize hvd : valD (x.take j) = vd at *
            clear hbj htk hmem hv hsm
            go_wp2_with (fail)
            go_roundw
            case rel => exact ⟨j + 1, by rw [HVV.out]; go_num, by go_num, by omega, HD2, trivial⟩
            case measure => simp [intOf]; omega
          · have HE : Hid (numsP m c s = none) := Lib.hid (HBD.out (goodN_bad HK.out (fun h => hdg (h.2.2.2 _ hmem))))
            unfold dig at hdg
            clear hbj htk hmem
            by_cases h48 : (B[j].toNat : Int) < 48
            · go_wp2_with (fail)
              go_ret2
              rw [HE.out]
              exact ⟨rfl, bl_drN HB.out nd⟩
            · have h57 : (57 : Int) < (B[j].toNat : Int) := by omega
              go_wp2_with (fail)
              go_ret2
              rw [HE.out]
              exact ⟨rfl, bl_drN HB.out nd⟩
        · obtain rfl : j = B.size := by omega
          have hjl : ¬ ((B.size : Int) < (B.size : Int)) := by omega
          have htl : x.take B.size = x := by rw [HSZ.out, List.take_length]
          have hdx := HD.out
          rw [htl] at hdx
          have hgd : goodN x m = some (valD x : Int) := goodN_yes HK.out (by have := HSZ.out; omega) (by have := HSZ.out; omega) HP4.out hdx
          have hvx : valD x < 10000000 := valD_small hdx (by have := HSZ.out; omega)
          rw [htl]
          have HGD := Lib.hid hgd
          generalize valD x = vx at *
          have HO1 := Lib.hid (HO.out.kept (w' := wr.drewN nd) (row := none) ⟨rfl, rfl, rfl, Nat.le_refl _, fun i hi _ => rfl⟩ (by simp [Value.ownBlock]; exact Classical.em _))
          obtain ⟨OA, oc, rfl⟩ := own_slice HO.out
          clear htl hdx hgd
          by_cases hmo : mo = true
          · have HN2 := Lib.hid (HNX.out _ HGD.out hmo)
            have HLL := Lib.hid (HLT.out hmo)
            subst hmo
            go_wp2_with (at_builtin; refine wpList_append_own_at _ rfl _ _ 41 rfl w.heap.size 3 i0 (.int .i64 0) 1 8 Tryz.underlying41 hi hq0 hq1 hq2 rfl (by decide) _ v.length (v.map encZ) rfl (HO1.out.alloc _) ⟨(wr.drewN nd).heap.size, 0, none⟩ 1 1 [.int .i64 (vx : Int)] rfl rfl (World.news_of_block (cs := #[.int .i64 (vx : Int)]) (t := 3) (fr := (0, 0)) (heap_alloc_new (wr.drewN nd) _)) (by simp [Value.oneCell']) (by unfold maxLen; omega) (by omega) (by simp; omega) ?_; intro v7 w7 hown7 hg7 _ hat7)
            have HO7 : Hid (w7.ownsRow w.heap.size 3 1 v7 (v ++ [(vx : Int)]).length ((v ++ [(vx : Int)]).map encZ)) := Lib.hid (by rw [List.map_append, List.length_append]; exact hown7)
            have HB7 : Hid (Below w.heap.size w w7) := Lib.hid (by
              have hb0 : Below w.heap.size w ((wr.drewN nd).alloc (.cells #[.int .i64 (vx : Int)] 3)) := (bl_drN HB.out nd).alloc (by simpa using hwsz) _
              exact ⟨hg7.os.trans hb0.os, hg7.tape.trans hb0.tape, hg7.output.trans hb0.output, Nat.le_trans hb0.size hg7.size, fun i hi => (hg7.block i (Nat.lt_of_lt_of_le hi hb0.size) (fun e => by have := (HO.out.lt i e.symm).1; omega)).trans (hb0.block i hi)⟩)
            go_roundw
            case rel => exact ⟨r2, v ++ [(vx : Int)], rfl, by have := HLL.out; omega, HN2, HO7, by have := HLL.out; rw [List.length_append, List.length_singleton]; omega, HB7⟩
            case measure => have := HLL.out; have := HRZ.out; simp [strLn, ByteArray.size]; omega
          · have hmf : mo = false := by simpa using hmo
            have HE := Lib.hid (HLS.out _ HGD.out hmf)
            subst hmf
            clear hmo
            go_wp2_with (at_builtin; refine wpList_append_own_at _ rfl _ _ 41 rfl w.heap.size 3 i0 (.int .i64 0) 1 8 Tryz.underlying41 hi hq0 hq1 hq2 rfl (by decide) _ v.length (v.map encZ) rfl (HO1.out.alloc _) ⟨(wr.drewN nd).heap.size, 0, none⟩ 1 1 [.int .i64 (vx : Int)] rfl rfl (World.news_of_block (cs := #[.int .i64 (vx : Int)]) (t := 3) (fr := (0, 0)) (heap_alloc_new (wr.drewN nd) _)) (by simp [Value.oneCell']) (by unfold maxLen; omega) (by omega) (by simp; omega) ?_; intro v7 w7 hown7 hg7 _ hat7)
            have HO7 : Hid (w7.ownsRow w.heap.size 3 1 v7 (v ++ [(vx : Int)]).length ((v ++ [(vx : Int)]).map encZ)) := Lib.hid (by rw [List.map_append, List.length_append]; exact hown7)
            have HB7 : Hid (Below w.heap.size w w7) := Lib.hid (by
              have hb0 : Below w.heap.size w ((wr.drewN nd).alloc (.cells #[.int .i64 (vx : Int)] 3)) := (bl_drN HB.out nd).alloc (by simpa using hwsz) _
              exact ⟨hg7.os.trans hb0.os, hg7.tape.trans hb0.tape, hg7.output.trans hb0.output, Nat.le_trans hb0.size hg7.size, fun i hi => (hg7.block i (Nat.lt_of_lt_of_le hi hb0.size) (fun e => by have := (HO.out.lt i e.symm).1; omega)).trans (hb0.block i hi)⟩)
            obtain ⟨A7, c7, rfl⟩ := own_slice HO7.out
            go_ret2
            rw [HE.out]
            exact ⟨⟨A7, c7, rfl, IntsAt.of_own HO7.out⟩, HB7.out⟩
    · have d3 : ¬ (1 : Int) < (B.size : Int) := by omega
      go_wp2_with (first
        | (go_at_call 58; (with_reducible refine HCU.out.mono ?_); rintro e w1 ⟨rfl, nd, rfl⟩)
        | fail)
      go_loopw [12, 13] (fun nv iv wi => ∃ j : Nat, nv = .int .i64 (valD (x.take j) : Int) ∧ iv = .int .i64 (j : Int) ∧ j ≤ B.size ∧ Hid (∀ b ∈ x.take j, dig b) ∧ wi = wr.drewN nd) (fun _ iv _ => B.size - (intOf iv).toNat)
      case atStart => exact ⟨0, rfl, rfl, Nat.zero_le _, Lib.hid (by simp), rfl⟩
      case round =>
        obtain ⟨j, rfl, rfl, hj, HD, rfl⟩ := hrel
        by_cases hlt : j < B.size
        · have hjl : (j : Int) < (B.size : Int) := by omega
          have hjx : j < x.length := by have := HSZ.out; omega
          have hbj := HGT.out j hlt hjx
          have htk : x.take (j + 1) = x.take j ++ [B[j]] := by rw [List.take_add_one, List.getElem?_eq_getElem hjx, hbj]; rfl
          have hmem : B[j] ∈ x := by rw [hbj]; exact List.getElem_mem hjx
          have hb8 : B[j].toNat ≤ 255 := by have := B[j].toNat_lt; omega
          by_cases hdg : dig B[j]
          · have HD2 : Hid (∀ b ∈ x.take (j + 1), dig b) := Lib.hid (by
              rw [htk]
              intro b hb
              rcases List.mem_append.1 hb with h | h
              · exact HD.out b h
              · obtain rfl : b = B[j] := by simpa using h
                exact hdg)
            have hv : valD (x.take (j + 1)) = valD (x.take j) * 10 + (B[j].toNat - 48) := by rw [htk, valD_snoc]
            have hsm : valD (x.take (j + 1)) < 10000000 := valD_small HD2.out (by rw [List.length_take]; omega)
            have HVV := Lib.hid hv
            have HSM := Lib.hid hsm
            unfold dig at hdg
            have h48 : ¬ (B[j].toNat : Int) < 48 := by omega
            have h57 : ¬ (57 : Int) < (B[j].toNat : Int) := by omega
            have hvs : valD (x.take j) < 1000000 := by omega
            generalize hvd : valD (x.take j) = vd at *
            clear hbj htk hmem hv hsm
            go_wp2_with (fail)
            go_roundw
            case rel => exact ⟨j + 1, by rw [HVV.out]; go_num, by go_num, by omega, HD2, trivial⟩
            case measure => simp [intOf]; omega
          · have HE : Hid (numsP m c s = none) := Lib.hid (HBD.out (goodN_bad HK.out (fun h => hdg (h.2.2.2 _ hmem))))
            unfold dig at hdg
            clear hbj htk hmem
            by_cases h48 : (B[j].toNat : Int) < 48
            · go_wp2_with (fail)
              go_ret2
              rw [HE.out]
              exact ⟨rfl, bl_drN HB.out nd⟩
            · have h57 : (57 : Int) < (B[j].toNat : Int) := by omega
              go_wp2_with (fail)
              go_ret2
              rw [HE.out]
              exact ⟨rfl, bl_drN HB.out nd⟩
        · obtain rfl : j = B.size := by omega
          have hjl : ¬ ((B.size : Int) < (B.size : Int)) := by omega
          have htl : x.take B.size = x := by rw [HSZ.out, List.take_length]
          have hdx := HD.out
          rw [htl] at hdx
          have hgd : goodN x m = some (valD x : Int) := goodN_yes HK.out (by have := HSZ.out; omega) (by have := HSZ.out; omega) (fun h => by have := HSZ.out; omega) hdx
          have hvx : valD x < 10000000 := valD_small hdx (by have := HSZ.out; omega)
          rw [htl]
          have HGD := Lib.hid hgd
          generalize valD x = vx at *
          have HO1 := Lib.hid (HO.out.kept (w' := wr.drewN nd) (row := none) ⟨rfl, rfl, rfl, Nat.le_refl _, fun i hi _ => rfl⟩ (by simp [Value.ownBlock]; exact Classical.em _))
          obtain ⟨OA, oc, rfl⟩ := own_slice HO.out
          clear htl hdx hgd
          by_cases hmo : mo = true
          · have HN2 := Lib.hid (HNX.out _ HGD.out hmo)
            have HLL := Lib.hid (HLT.out hmo)
            subst hmo
            go_wp2_with (at_builtin; refine wpList_append_own_at _ rfl _ _ 41 rfl w.heap.size 3 i0 (.int .i64 0) 1 8 Tryz.underlying41 hi hq0 hq1 hq2 rfl (by decide) _ v.length (v.map encZ) rfl (HO1.out.alloc _) ⟨(wr.drewN nd).heap.size, 0, none⟩ 1 1 [.int .i64 (vx : Int)] rfl rfl (World.news_of_block (cs := #[.int .i64 (vx : Int)]) (t := 3) (fr := (0, 0)) (heap_alloc_new (wr.drewN nd) _)) (by simp [Value.oneCell']) (by unfold maxLen; omega) (by omega) (by simp; omega) ?_; intro v7 w7 hown7 hg7 _ hat7)
            have HO7 : Hid (w7.ownsRow w.heap.size 3 1 v7 (v ++ [(vx : Int)]).length ((v ++ [(vx : Int)]).map encZ)) := Lib.hid (by rw [List.map_append, List.length_append]; exact hown7)
            have HB7 : Hid (Below w.heap.size w w7) := Lib.hid (by
              have hb0 : Below w.heap.size w ((wr.drewN nd).alloc (.cells #[.int .i64 (vx : Int)] 3)) := (bl_drN HB.out nd).alloc (by simpa using hwsz) _
              exact ⟨hg7.os.trans hb0.os, hg7.tape.trans hb0.tape, hg7.output.trans hb0.output, Nat.le_trans hb0.size hg7.size, fun i hi => (hg7.block i (Nat.lt_of_lt_of_le hi hb0.size) (fun e => by have := (HO.out.lt i e.symm).1; omega)).trans (hb0.block i hi)⟩)
            go_roundw
            case rel => exact ⟨r2, v ++ [(vx : Int)], rfl, by have := HLL.out; omega, HN2, HO7, by have := HLL.out; rw [List.length_append, List.length_singleton]; omega, HB7⟩
            case measure => have := HLL.out; have := HRZ.out; simp [strLn, ByteArray.size]; omega
          · have hmf : mo = false := by simpa using hmo
            have HE := Lib.hid (HLS.out _ HGD.out hmf)
            subst hmf
            clear hmo
            go_wp2_with (at_builtin; refine wpList_append_own_at _ rfl _ _ 41 rfl w.heap.size 3 i0 (.int .i64 0) 1 8 Tryz.underlying41 hi hq0 hq1 hq2 rfl (by decide) _ v.length (v.map encZ) rfl (HO1.out.alloc _) ⟨(wr.drewN nd).heap.size, 0, none⟩ 1 1 [.int .i64 (vx : Int)] rfl rfl (World.news_of_block (cs := #[.int .i64 (vx : Int)]) (t := 3) (fr := (0, 0)) (heap_alloc_new (wr.drewN nd) _)) (by simp [Value.oneCell']) (by unfold maxLen; omega) (by omega) (by simp; omega) ?_; intro v7 w7 hown7 hg7 _ hat7)
            have HO7 : Hid (w7.ownsRow w.heap.size 3 1 v7 (v ++ [(vx : Int)]).length ((v ++ [(vx : Int)]).map encZ)) := Lib.hid (by rw [List.map_append, List.length_append]; exact hown7)
            have HB7 : Hid (Below w.heap.size w w7) := Lib.hid (by
              have hb0 : Below w.heap.size w ((wr.drewN nd).alloc (.cells #[.int .i64 (vx : Int)] 3)) := (bl_drN HB.out nd).alloc (by simpa using hwsz) _
              exact ⟨hg7.os.trans hb0.os, hg7.tape.trans hb0.tape, hg7.output.trans hb0.output, Nat.le_trans hb0.size hg7.size, fun i hi => (hg7.block i (Nat.lt_of_lt_of_le hi hb0.size) (fun e => by have := (HO.out.lt i e.symm).1; omega)).trans (hb0.block i hi)⟩)
            obtain ⟨A7, c7, rfl⟩ := own_slice HO7.out
            go_ret2
            rw [HE.out]
            exact ⟨⟨A7, c7, rfl, IntsAt.of_own HO7.out⟩, HB7.out⟩
end Go.Proofs.YtllnamhgnbdkmaaGreatDoor
set_option linter.unusedVariables false
set_option linter.unusedSimpArgs false
namespace Go.Proofs.YtllnamhgnbdkmaaGreatDoor
open Go.RowKit Go.Shelf Go.Sort
def OneOut (w w' : World) (e : Ending) (s : List UInt8) : Option Int → Prop
  | some v => ∃ A c, e = .returned (.tuple #[.slice A 1 c, .string ⟨(Lib.cut s [32]).2.1.toArray⟩, .bool (Lib.cut s [32]).2.2]) ∧ IntsAt w' (fun b => w.heap.size ≤ b) (.slice A ([v] : List Int).length c) [v]
  | none => e = .returned (.tuple #[.slice none 0 0, .string ⟨(Lib.cut s [32]).2.1.toArray⟩, .bool false])
set_option maxRecDepth 100000 in
theorem rone_any (s : List UInt8) (w : World) (hs : s.length ≤ 1000000) :
    Calls Tryz.prog 64 #[.string ⟨s.toArray⟩] w fun e w' => OneOut w w' e s (goodN (Lib.cut s [32]).1 999) ∧ Below w.heap.size w w' := by
  have HCU := rcut_any s 32 w hs
  rw [show ((32 : UInt8).toNat : Int) = 32 from rfl] at HCU
  have HCUT := Lib.hid HCU
  have hcl := (cutR_le s 32).1
  have HNU : Hid (∀ W, Calls Tryz.prog 62 #[.string ⟨(Lib.cut s [32]).1.toArray⟩, .int .u8 32, .int .i64 3] W fun e w' => NumsOut W w' e ((goodN (Lib.cut s [32]).1 999).map fun v => [v]) ∧ Below W.heap.size W w') := Lib.hid fun W => by
    have := rnums_any 3 999 km3 (Lib.cut s [32]).1 32 W (by omega)
    rw [show ((32 : UInt8).toNat : Int) = 32 from rfl, numsP_one (cut_no s 32)] at this
    exact this
  have HB0 := Lib.hid (Below.refl w.heap.size w)
  clear HCU
  unfold OneOut
  generalize goodN (Lib.cut s [32]).1 999 = g at *
  clear hcl
  obtain ⟨x, r, mo, hcut⟩ : ∃ x r mo, Lib.cut s [32] = (x, r, mo) := ⟨_, _, _, rfl⟩
  rw [hcut] at HCUT HNU ⊢
  clear hcut
  dsimp only at HCUT HNU ⊢
  cases g with
  | none =>
    cases mo with
    | false =>
      go_enter Tryz.func64, Tryz.ntmps64
      go_wp2_with (first
        | (go_at_call 58; (with_reducible refine HCUT.out.mono ?_); rintro e w1 ⟨rfl, nd, rfl⟩)
        | (go_at_call 62; (with_reducible refine (HNU.out _).mono ?_); rintro e w2 ⟨he, hb2⟩; obtain rfl : e = _ := he; have HB2 := Lib.hid ((bl_drN HB0.out nd).trans hb2); clear hb2)
        | fail)
      refine bodyPost_ret (v := .tuple #[.slice none 0 0, .string ⟨r.toArray⟩, .bool false]) (by simp [results, Tryz.results64, go_sem]) rfl ?_
      exact ⟨rfl, HB2.out⟩
    | true =>
      go_enter Tryz.func64, Tryz.ntmps64
      go_wp2_with (first
        | (go_at_call 58; (with_reducible refine HCUT.out.mono ?_); rintro e w1 ⟨rfl, nd, rfl⟩)
        | (go_at_call 62; (with_reducible refine (HNU.out _).mono ?_); rintro e w2 ⟨he, hb2⟩; obtain rfl : e = _ := he; have HB2 := Lib.hid ((bl_drN HB0.out nd).trans hb2); clear hb2)
        | fail)
      refine bodyPost_ret (v := .tuple #[.slice none 0 0, .string ⟨r.toArray⟩, .bool false]) (by simp [results, Tryz.results64, go_sem]) rfl ?_
      exact ⟨rfl, HB2.out⟩
  | some v =>
    cases mo with
    | false =>
      go_enter Tryz.func64, Tryz.ntmps64
      go_wp2_with (first
        | (go_at_call 58; (with_reducible refine HCUT.out.mono ?_); rintro e w1 ⟨rfl, nd, rfl⟩)
        | (go_at_call 62; (with_reducible refine (HNU.out _).mono ?_); rintro e w2 ⟨⟨A, c, he, hia⟩, hb2⟩; obtain rfl : e = _ := he; have HB2 := Lib.hid ((bl_drN HB0.out nd).trans hb2); have HIA := Lib.hid hia; clear hb2 hia)
        | fail)
      refine bodyPost_ret (v := .tuple #[.slice A 1 c, .string ⟨r.toArray⟩, .bool false]) (by simp [results, Tryz.results64, go_sem]) rfl ?_
      exact ⟨⟨A, c, rfl, HIA.out⟩, HB2.out⟩
    | true =>
      go_enter Tryz.func64, Tryz.ntmps64
      go_wp2_with (first
        | (go_at_call 58; (with_reducible refine HCUT.out.mono ?_); rintro e w1 ⟨rfl, nd, rfl⟩)
        | (go_at_call 62; (with_reducible refine (HNU.out _).mono ?_); rintro e w2 ⟨⟨A, c, he, hia⟩, hb2⟩; obtain rfl : e = _ := he; have HB2 := Lib.hid ((bl_drN HB0.out nd).trans hb2); have HIA := Lib.hid hia; clear hb2 hia)
        | fail)
      refine bodyPost_ret (v := .tuple #[.slice A 1 c, .string ⟨r.toArray⟩, .bool true]) (by simp [results, Tryz.results64, go_sem]) rfl ?_
      exact ⟨⟨A, c, rfl, HIA.out⟩, HB2.out⟩
end Go.Proofs.YtllnamhgnbdkmaaGreatDoor
