/-
Stage 11: leading: the places that lead.
-/
import Derived.Test.YtllnamhgnbdkmaaGreatDoorJh
set_option linter.unusedVariables false
set_option linter.unusedSimpArgs false
namespace Go.Proofs.YtllnamhgnbdkmaaGreatDoor
open Go.RowKit Go.Shelf Go.Sort

/-- What the node at a place reads from. -/
def rdAt (l : List Gn) (i : Nat) : List Int := match l[i]? with
  | some n => readsN n
  | none => []
/-- The marks, when so many of the last nodes were gone through. -/
def marks (l : List Gn) (ends : List Int) : Nat → Nat → Bool
  | 0, k => decide ((k : Int) ∈ ends)
  | m + 1, k => marks l ends m k || (marks l ends m (l.length - 1 - m) && decide ((k : Int) ∈ rdAt l (l.length - 1 - m)))
/-- The places then, falling. -/
def plcs (l : List Gn) (ends : List Int) : Nat → List Int
  | 0 => []
  | m + 1 => if marks l ends m (l.length - 1 - m) = true then plcs l ends m ++ [((l.length - 1 - m : Nat) : Int)] else plcs l ends m
def leadP (l : List Gn) (ends : List Int) : List Int := (plcs l ends l.length).reverse
theorem plcs_len (l : List Gn) (ends : List Int) : ∀ m, (plcs l ends m).length ≤ m
  | 0 => Nat.le_refl _
  | m + 1 => by
    unfold plcs
    have := plcs_len l ends m
    split
    · simp; omega
    · omega

theorem mem_snoc (t : List Int) (xn k : Nat) : (decide ((k : Int) ∈ t) || decide (k = xn)) = decide ((k : Int) ∈ t ++ [(xn : Int)]) := by
  rw [Bool.eq_iff_iff]
  simp only [Bool.or_eq_true, decide_eq_true_eq, List.mem_append, List.mem_singleton]
  constructor
  · rintro (h | h)
    · exact .inl h
    · right; omega
  · rintro (h | h)
    · exact .inl h
    · right; omega

/-- A row of 32 bools. -/
def boolRow (f : Nat → Bool) : Array Value := ((List.range 32).map fun k => Value.bool (f k)).toArray
theorem boolRow_get (f : Nat → Bool) {k : Nat} (h : k < 32) : (boolRow f)[k]? = some (.bool (f k)) := by
  unfold boolRow
  simp [h]
theorem boolRow_none : boolRow (fun _ => false) = #[.bool false, .bool false, .bool false, .bool false, .bool false, .bool false, .bool false, .bool false, .bool false, .bool false, .bool false, .bool false, .bool false, .bool false, .bool false, .bool false, .bool false, .bool false, .bool false, .bool false, .bool false, .bool false, .bool false, .bool false, .bool false, .bool false, .bool false, .bool false, .bool false, .bool false, .bool false, .bool false] := by rfl
theorem boolRow_put {w : World} {g : Nat} {f : Nat → Bool} {t : TypeId} {x : Nat} (h : w.heap[g]? = some (.cells (boolRow f) t (0, 0))) (hx : x < 32) : (w.setCell ⟨g, x, none⟩ (.bool true)).heap[g]? = some (.cells (boolRow fun k => f k || decide (k = x)) t (0, 0)) := by
  simp only [World.setCell, Array.getElem?_modify, h]
  simp only [if_true, Option.map_some]
  congr 2
  unfold boolRow
  apply Array.ext'
  simp only [Option.isSome_none, Bool.false_eq_true, if_false, Array.toList_setIfInBounds]
  apply List.ext_getElem?
  intro k
  rw [List.getElem?_set]
  by_cases hk : k < 32
  · by_cases hkx : x = k
    · subst hkx
      simp [hx]
    · simp [hkx, hk, List.getElem?_map, List.getElem?_range, Ne.symm (a := k) (b := x) (fun e => hkx e.symm)]
      intro e
      exact absurd e.symm hkx
  · have : x ≠ k := by omega
    simp [this, List.getElem?_map, hk]

set_option maxRecDepth 100000 in
set_option maxHeartbeats 8000000 in
theorem leading_any (w : World) (S S2 : Nat → Prop) (d : Nat) (gv ev : Value) (l : List Gn) (ends : List Int) (hL : GsAt w S d gv l) (hE : IntsAt w S2 ev ends) (h32 : l.length ≤ 32) (hends : ∀ x ∈ ends, 0 ≤ x ∧ x < 32) (helen : ends.length ≤ 1000000) (hr : ∀ n ∈ l, ∀ x ∈ readsN n, 0 ≤ x ∧ x < 32) (hrl : ∀ n ∈ l, n.ins.length + n.side.length ≤ 1000000) :
    Calls Tryz.prog 57 #[.agg #[gv], ev] w fun e w' => (∃ v', e = .returned v' ∧ IntsAt w' (fun b => w.heap.size ≤ b) v' (leadP l ends)) ∧ Below w.heap.size w w' := by
  obtain ⟨i0, hi, hq0, hq1, hq2⟩ := info_parts info3
  obtain ⟨GA, gc, rfl⟩ := hL.form
  obtain ⟨EA, ec, rfl⟩ := hE.form
  obtain ⟨W0, hW0⟩ : ∃ W0, (w.alloc (.cells #[.slice GA l.length gc] 27)).alloc (.cells (boolRow fun _ => false) 144) = W0 := ⟨_, rfl⟩
  have hx : W0.heap[w.heap.size]? = some (.cells #[.slice GA l.length gc] 27 (0, 0)) := by rw [← hW0]; exact alloc_old (heap_alloc_new w _)
  have hg : W0.heap[w.heap.size + 1]? = some (.cells (boolRow fun _ => false) 144 (0, 0)) := by rw [← hW0]; exact heap_new_at (by simp)
  have hs0 : W0.heap.size = w.heap.size + 2 := by rw [← hW0]; simp
  have hB0 : Below w.heap.size w W0 := by rw [← hW0]; exact bl_al (bl_al (Below.refl _ _) _) _
  have HL := Lib.hid hL
  have HE := Lib.hid hE
  have HEN := Lib.hid hends
  have HR := Lib.hid hr
  have HRL := Lib.hid hrl
  have HX := Lib.hid hx
  have HGB := Lib.hid hg
  have HS0 := Lib.hid hs0
  have HB0 := Lib.hid hB0
  rw [boolRow_none] at hW0
  have HW0 := Lib.hid hW0
  have H32 := Lib.hid h32
  clear hL hE hends hr hrl hx hg hs0 hB0 hW0
  go_enter Tryz.func57, Tryz.ntmps57
  go_upto_region 2 with (fail)
  rw [HW0.out]
  clear HW0
  go_wp2_with (fail)
  go_loopw [14] (fun i wr => ∃ j : Nat, i = .int .i64 j ∧ j ≤ ends.length ∧ Hid (wr.heap[w.heap.size + 1]? = some (.cells (boolRow fun k => decide ((k : Int) ∈ ends.take j)) 144 (0, 0))) ∧ Hid (wr.heap[w.heap.size]? = some (.cells #[.slice GA l.length gc] 27 (0, 0))) ∧ Hid (Below w.heap.size w wr) ∧ wr.heap.size = w.heap.size + 2) (fun i _ => ends.length - (intOf i).toNat)
  case atStart => exact ⟨0, rfl, Nat.zero_le _, Lib.hid (by simpa using HGB.out), HX, HB0, HS0.out⟩
  case round =>
    obtain ⟨j, rfl, hj, HGR, HXR, HBR, hsr⟩ := hrel
    have HSR := Lib.hid hsr
    clear hsr
    by_cases hlt : j < ends.length
    · have hjl : (j : Int) < (ends.length : Int) := by omega
      obtain ⟨b, o, rfl, hc, hbl, hS⟩ := (HE.out.below HBR.out).cell hlt
      have htk : ends.take (j + 1) = ends.take j ++ [ends[j]] := by simp
      obtain ⟨hx0, hx1⟩ := HEN.out _ (List.getElem_mem hlt)
      generalize ends[j] = x at *
      obtain ⟨xn, rfl⟩ : ∃ n : Nat, x = (n : Int) := ⟨x.toNat, by omega⟩
      have hxn : xn < 32 := by omega
      have hg0 := cellN (i := xn) HGR.out (boolRow_get _ hxn)
      have hg1 := frozN (i := xn) HGR.out
      have hgl := cell_lt HGR.out
      have HP := Lib.hid (boolRow_put HGR.out hxn)
      have hfx : (fun k : Nat => decide ((k : Int) ∈ ends.take j) || decide (k = xn)) = fun k : Nat => decide ((k : Int) ∈ ends.take (j + 1)) := by
        funext k
        rw [htk]
        exact mem_snoc _ _ _
      rw [hfx] at HP
      have HXP := Lib.hid ((Below.heap_setCell wr ⟨w.heap.size + 1, xn, none⟩ (.bool true) w.heap.size (by simp)).trans HXR.out)
      clear hfx htk
      go_wp2_with (fail)
      go_roundw
      case rel => exact ⟨j + 1, by go_num, by omega, HP, HXP, HBR.out.setCell (p := ⟨w.heap.size + 1, xn, none⟩) (by simp) _, by simpa [World.setCell] using HSR.out⟩
      case measure => simp [intOf]; omega
    · obtain rfl : j = ends.length := by omega
      have hjl : ¬ ((ends.length : Int) < (ends.length : Int)) := by omega
      have HM0 : Hid (wr.heap[w.heap.size + 1]? = some (.cells (boolRow (marks l ends 0)) 144 (0, 0))) := Lib.hid (by
        have h := HGR.out
        rw [List.take_length] at h
        exact h)
      have p0 := cellN (i := 0) HXR.out rfl
      have pl := cell_lt HXR.out
      clear HGR
      go_wp2_with (fail)
      have hown0 : wr.ownsRow (w.heap.size + 2) 3 1 (.slice none 0 0) 0 [] := World.ownsRow_nil _ _ _ _
      go_loopw [8, 9] (fun pv av wq => ∃ m : Nat, av = .int .i64 ((l.length : Int) - 1 - m) ∧ m ≤ l.length ∧ Hid (wq.ownsRow (w.heap.size + 2) 3 1 pv (plcs l ends m).length ((plcs l ends m).map (Value.int .i64))) ∧ Hid (wq.heap[w.heap.size + 1]? = some (.cells (boolRow (marks l ends m)) 144 (0, 0))) ∧ Hid (wq.heap[w.heap.size]? = some (.cells #[.slice GA l.length gc] 27 (0, 0))) ∧ Hid (Below w.heap.size w wq) ∧ w.heap.size + 2 ≤ wq.heap.size) (fun _ av _ => (intOf av + 1).toNat)
      case atStart => exact ⟨0, by simp, Nat.zero_le _, Lib.hid hown0, HM0, HXR, HBR, by have := HSR.out; omega⟩
      case round =>
        obtain ⟨m, rfl, hm, HOW, HGQ, HXQ, HBQ, hsq⟩ := hrel
        by_cases hlm : m < l.length
        · obtain ⟨q, hq⟩ : ∃ q : Nat, q = l.length - 1 - m := ⟨_, rfl⟩
          have hqi : (l.length : Int) - 1 - (m : Int) = (q : Int) := by omega
          have hq32 : q < 32 := by have := H32.out; omega
          have hql : q < l.length := by omega
          rw [hqi]
          have hg0 := cellN (i := q) HGQ.out (boolRow_get _ hq32)
          have hg1 := frozN (i := q) HGQ.out
          have hgl := cell_lt HGQ.out
          have p0 := cellN (i := 0) HXQ.out rfl
          have pl := cell_lt HXQ.out
          obtain ⟨b, hb⟩ : ∃ b, marks l ends m q = b := ⟨_, rfl⟩
          rw [hb] at hg0
          have HQI := Lib.hid hqi
          have HQ := Lib.hid hq
          have HBM := Lib.hid hb
          have hlm' : m + 1 ≤ l.length := hlm
          clear hqi hq hb hlm
          cases b with
          | false =>
            have HM1 : Hid (marks l ends (m + 1) = marks l ends m) := Lib.hid (by
              funext k
              rw [marks, ← HQ.out, HBM.out]
              simp)
            have HP1 : Hid (plcs l ends (m + 1) = plcs l ends m) := Lib.hid (by
              rw [plcs, ← HQ.out, HBM.out]
              simp)
            go_wp2_with (fail)
            go_roundw
            case rel => exact ⟨m + 1, by have := HQI.out; go_num, hlm', by rw [HP1.out]; exact HOW, by rw [HM1.out]; exact HGQ, HXQ, HBQ, hsq⟩
            case measure => simp [intOf]
          | true =>
            have hpl := plcs_len l ends m
            have hle := HOW.out.lt
            have HOWp := HOW.out
            obtain ⟨PA, pc, rfl⟩ := own_slice HOW.out
            go_upto_region 13 with (at_builtin; refine wpList_append_own_at _ rfl _ _ 41 rfl (w.heap.size + 2) 3 i0 (.int .i64 0) 1 8 Tryz.underlying41 hi hq0 hq1 hq2 rfl (by decide) _ (plcs l ends m).length ((plcs l ends m).map (Value.int .i64)) rfl (HOW.out.alloc _) ⟨wr.heap.size, 0, none⟩ 1 1 [.int .i64 (q : Int)] rfl rfl (World.news_of_block (cs := #[.int .i64 (q : Int)]) (t := 3) (fr := (0, 0)) (heap_alloc_new wr _)) (by simp [Value.oneCell']) (by unfold maxLen; omega) (by omega) (by simp; omega) ?_; intro v7 w7 hown7 hg7 _ hat7)
            have h7g := (hg7.block (w.heap.size + 1) (by simp; omega) (fun e => by have := (hle _ e.symm).1; omega)).trans (alloc_old HGQ.out)
            have h7x := (hg7.block w.heap.size (by simp; omega) (fun e => by have := (hle _ e.symm).1; omega)).trans (alloc_old HXQ.out)
            have h7b : Below w.heap.size w w7 := (HBQ.out.alloc HBQ.out.size _).grown hg7 (by simp; omega) (fun k hk => by have := (hle k hk).1; omega)
            have h7s : w.heap.size + 2 ≤ w7.heap.size := by have := hg7.size; simp at this; omega
            have HP1 : Hid (plcs l ends (m + 1) = plcs l ends m ++ [(q : Int)]) := Lib.hid (by
              rw [plcs, ← HQ.out, HBM.out]
              simp)
            have H7O : Hid (w7.ownsRow (w.heap.size + 2) 3 1 v7 (plcs l ends (m + 1)).length ((plcs l ends (m + 1)).map (Value.int .i64))) := Lib.hid (by
              rw [HP1.out]
              simpa using hown7)
            have H7G := Lib.hid h7g
            have H7X := Lib.hid h7x
            have H7B := Lib.hid h7b
            clear h7g h7x h7b hown7 hg7 hat7 HOWp hle hg0 hg1 hgl p0 pl HGQ HXQ HOW
            have p0 := cellN (i := 0) H7X.out rfl
            have pl := cell_lt H7X.out
            have hat := (HL.out.below H7B.out).at hql
            have hrd : rdAt l q = readsN l[q] := by unfold rdAt; rw [List.getElem?_eq_getElem hql]
            have hrn := HR.out _ (List.getElem_mem hql)
            have hln := HRL.out _ (List.getElem_mem hql)
            generalize l[q] = n at *
            obtain ⟨b, o, rfl, hbl, hS, IA, SA, A, ic, sc, c, hN, a0, a1, a2, a3, a4, a5, a6, a7, a8, a9, a10, a11, a12, a13⟩ := hat
            have HC := Lib.hid (reads_any w7 S d n IA SA A ic sc c hN hln)
            have hrl8 : (readsN n).length ≤ 1000000 := by unfold readsN; rw [List.length_append]; exact hln
            have HRD := Lib.hid hrd
            have HRN := Lib.hid hrn
            have hqi' : (q : Int) < (l.length : Int) := by omega
            have hq0' : (0 : Int) ≤ (q : Int) := by omega
            clear hN hrd hrn hln
            go_wp2_with (fail)
            refine HC.out.mono ?_
            rintro e w8 ⟨⟨rv, rfl, hI⟩, hb8⟩
            obtain ⟨RA, rc, rfl⟩ := hI.form
            have H8O := Lib.hid (H7O.out.kept (row := none) ⟨hb8.os, hb8.tape, hb8.output, hb8.size, fun k hk _ => hb8.block k hk⟩ (Classical.em _))
            have H8G : Hid (w8.heap[w.heap.size + 1]? = some (.cells (boolRow fun x => marks l ends m x || decide ((x : Int) ∈ (readsN n).take 0)) 144 (0, 0))) := Lib.hid (by
              have h := bl_blk hb8 H7G.out
              simpa using h)
            have H8X := Lib.hid (bl_blk hb8 H7X.out)
            have H8B := Lib.hid (H7B.out.trans (hb8.mono H7B.out.size))
            have HI := Lib.hid hI
            have h8s := hb8.size
            clear hI hb8
            go_wp2_with (fail)
            go_loopw [43] (fun iv wz => ∃ k : Nat, iv = .int .i64 k ∧ k ≤ (readsN n).length ∧ Hid (wz.ownsRow (w.heap.size + 2) 3 1 v7 (plcs l ends (m + 1)).length ((plcs l ends (m + 1)).map (Value.int .i64))) ∧ Hid (wz.heap[w.heap.size + 1]? = some (.cells (boolRow fun x => marks l ends m x || decide ((x : Int) ∈ (readsN n).take k)) 144 (0, 0))) ∧ Hid (wz.heap[w.heap.size]? = some (.cells #[.slice (some ⟨b, o, none⟩) l.length gc] 27 (0, 0))) ∧ Hid (Below w.heap.size w wz) ∧ Hid (IntsAt wz (fun b => w7.heap.size ≤ b) (.slice RA (readsN n).length rc) (readsN n)) ∧ w.heap.size + 2 ≤ wz.heap.size) (fun iv _ => (readsN n).length - (intOf iv).toNat)
            case atStart => exact ⟨0, rfl, Nat.zero_le _, H8O, H8G, H8X, H8B, HI, by omega⟩
            case round =>
              obtain ⟨k, rfl, hk, HO, HGK, HXK, HBK, HIK, hsk⟩ := hrel
              by_cases hlt : k < (readsN n).length
              · have hkl : (k : Int) < ((readsN n).length : Int) := by omega
                obtain ⟨b3, o3, rfl, hc, hbl3, hS3⟩ := HIK.out.cell hlt
                have htk : (readsN n).take (k + 1) = (readsN n).take k ++ [(readsN n)[k]] := by simp
                obtain ⟨hx0, hx1⟩ := HRN.out _ (List.getElem_mem hlt)
                generalize (readsN n)[k] = x at *
                obtain ⟨xn, rfl⟩ : ∃ n : Nat, x = (n : Int) := ⟨x.toNat, by omega⟩
                have hxn : xn < 32 := by omega
                have hg0 := cellN (i := xn) HGK.out (boolRow_get _ hxn)
                have hg1 := frozN (i := xn) HGK.out
                have hgl := cell_lt HGK.out
                have HP := Lib.hid (boolRow_put HGK.out hxn)
                have hfx : (fun y : Nat => (marks l ends m y || decide ((y : Int) ∈ (readsN n).take k)) || decide (y = xn)) = fun y : Nat => marks l ends m y || decide ((y : Int) ∈ (readsN n).take (k + 1)) := by
                  funext y
                  rw [htk, Bool.or_assoc, mem_snoc]
                rw [hfx] at HP
                have HXP := Lib.hid ((Below.heap_setCell wr ⟨w.heap.size + 1, xn, none⟩ (.bool true) w.heap.size (by simp)).trans HXK.out)
                have HOP := Lib.hid (HO.out.kept (w' := wr.setCell ⟨w.heap.size + 1, xn, none⟩ (.bool true)) (row := some (w.heap.size + 1)) ⟨rfl, rfl, rfl, by simp [World.setCell], fun q _ hq => Below.heap_setCell _ _ _ _ (fun e => hq (by simp [e]))⟩ (.inr (fun e => by have := (HO.out.lt _ e).1; omega)))
                have HIP : Hid (IntsAt (wr.setCell ⟨w.heap.size + 1, xn, none⟩ (.bool true)) (fun b => w7.heap.size ≤ b) (.slice (some ⟨b3, o3, none⟩) (readsN n).length rc) (readsN n)) := Lib.hid (HIK.out.move fun b hb1 hl => ⟨hb1, by simpa [World.setCell] using hl, fun o => World.cell?_of_block (Below.heap_setCell _ _ _ _ (by show b ≠ w.heap.size + 1; omega))⟩)
                clear hfx htk
                go_wp2_with (fail)
                go_roundw
                case rel => exact ⟨k + 1, by go_num, by omega, HOP, HP, HXP, HBK.out.setCell (p := ⟨w.heap.size + 1, xn, none⟩) (by simp) _, HIP, by simpa [World.setCell] using hsk⟩
                case measure => simp [intOf]; omega
              · obtain rfl : k = (readsN n).length := by omega
                have hkl : ¬ (((readsN n).length : Int) < ((readsN n).length : Int)) := by omega
                have HM1 : Hid (wr.heap[w.heap.size + 1]? = some (.cells (boolRow (marks l ends (m + 1))) 144 (0, 0))) := Lib.hid (by
                  have h := HGK.out
                  rw [List.take_length] at h
                  have e : marks l ends (m + 1) = fun x : Nat => marks l ends m x || decide ((x : Int) ∈ readsN n) := by
                    funext x
                    rw [marks, ← HQ.out, HBM.out, HRD.out]
                    simp
                  rw [e]
                  exact h)
                go_wp2_with (fail)
                go_roundw
                case rel => exact ⟨m + 1, by have := HQI.out; go_num, hlm', HO, HM1, HXK, HBK, hsk⟩
                case measure => simp [intOf]
        · obtain rfl : m = l.length := by omega
          have hneg : (l.length : Int) - 1 - (l.length : Int) = -1 := by omega
          rw [hneg]
          have hpl := plcs_len l ends l.length
          have h32' := H32.out
          go_wp2_with (fail)
          refine (reverse_own (w.heap.size + 2) _ (plcs l ends l.length) wr HOW.out (by omega)).mono ?_
          rintro e w9 ⟨rfl, hown9, hg9⟩
          have HF := Lib.hid ((IntsAt.of_own hown9).move (S' := fun b => w.heap.size ≤ b) fun b hb1 hl => ⟨by omega, hl, fun _ => rfl⟩)
          have HB9 := Lib.hid (HBQ.out.grown hg9 (by omega) (fun k hk => by have := (HOW.out.lt k hk).1; omega))
          clear hown9 hg9
          go_wp2_with (fail)
          go_ret
          exact ⟨⟨_, rfl, HF.out⟩, HB9.out⟩

end Go.Proofs.YtllnamhgnbdkmaaGreatDoor
