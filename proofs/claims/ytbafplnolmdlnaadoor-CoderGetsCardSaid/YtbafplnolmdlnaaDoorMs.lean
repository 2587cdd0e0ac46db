/-
Ported from the texts of layer 2: Ms.
-/
import Derived.Test.YtbafplnolmdlnaaDoorBas
namespace Go.Proofs.YtbafplnolmdlnaaDoor
open Go.RowKit

/-- The word of a kind. -/
def wordK (k : Int) : Option Wd := words.find? fun x => x.kind == k

/-- What wordOf answers with. -/
def WoOut (o : Option Wd) (e : Ending) : Prop := e = .returned (.tuple #[wdVal (o.getD zeroWd), .bool o.isSome])

set_option maxRecDepth 100000 in
set_option maxHeartbeats 400000 in
theorem wordOf_any (n : Int) (w : World) (hG : Glob w) :
    Calls Tryd.prog 52 #[.int .i64 n] w fun e w' => WoOut (wordK n) e ∧ Below w.heap.size w w' := by
  have hGl := hG.lt
  obtain ⟨tt, fr, hg1⟩ := hG.kept (Below.heap_alloc w (.cells #[.int .i64 0, .int .i64 0, .string ⟨#[]⟩] 101) 0 hGl)
  go_enter Tryd.func52, Tryd.ntmps52
  go_wp2_with (refine wpList_load_row rfl 107 _ rfl 0 rfl tt _ fr _ hg1 Tryd.underlying107 rfl (by kernel_rfl) ?_)
  go_loopw [7] (fun i wr => ∃ k : Nat, k ≤ 8 ∧ i = .int .i64 k ∧ Hid (wordK n = (words.drop k).find? fun x => x.kind == n) ∧ Below w.heap.size w wr ∧ w.heap.size < wr.heap.size ∧ wr.heap[w.heap.size]? = some (.cells #[.int .i64 0, .int .i64 0, .string ⟨#[]⟩] 101 (0, 0))) (fun i _ => 8 - (intOf i).toNat)
  case atStart => exact ⟨0, Nat.zero_le _, rfl, rfl, (Below.refl _ _).alloc (Nat.le_refl _) _, by simp, heap_alloc_new w _⟩
  case round =>
    obtain ⟨k, hk, rfl, HK, hb, hz, hc⟩ := hrel
    have d0 := cell3_0 hc
    have d1 := cell3_1 hc
    have d2 := cell3_2 hc
    have e0 := cell3_f hc 0
    have e1 := cell3_f hc 1
    have e2 := cell3_f hc 2
    by_cases hlk : k < 8
    · obtain ⟨x, hx⟩ : ∃ x, words[k]? = some x := ⟨words[k]'hlk, List.getElem?_eq_getElem hlk⟩
      have hwa := words_at k x hx
      have hd : words.drop k = x :: words.drop (k + 1) := by
        rw [List.drop_eq_getElem_cons hlk]
        rw [List.getElem?_eq_getElem hlk] at hx
        injection hx with hx
        rw [hx]
      have HD := Lib.hid hd
      clear hd hx
      by_cases hkd : x.kind = n
      · have hke : (x.kind == n) = true := by simp [hkd]
        have HE : Hid (wordK n = some x) := by show _ = _; rw [HK.out, HD.out, List.find?_cons_of_pos (by simpa using hke)]
        clear hkd
        go_wp2
        refine bodyPost_ret (v := .tuple #[wdVal x, .bool true]) (by simp [results, Tryd.results52, go_sem, d0, d1, d2, wdVal, hz]) rfl ?_
        rw [HE.out]
        exact ⟨rfl, (((hb.setCell (Nat.le_refl _) _).setCell (Nat.le_refl _) _).setCell (Nat.le_refl _) _).alloc (by simp [World.setCell]; omega) _⟩
      · have hke : (x.kind == n) = false := by simp [hkd]
        have HE : Hid (wordK n = (words.drop (k + 1)).find? fun x => x.kind == n) := by show _ = _; rw [HK.out, HD.out, List.find?_cons_of_neg (by simp [hkd])]
        clear hkd
        go_wp2
        go_roundw
        case rel => exact ⟨k + 1, by omega, by go_num, HE, hb.alloc (by omega) _, by simp; omega, (Below.heap_alloc wr _ _ hz).trans hc⟩
        case measure => simp [intOf]; omega
    · obtain rfl : k = 8 := by omega
      have HE : Hid (wordK n = none) := by show _ = _; rw [HK.out]; rfl
      go_wp2
      refine bodyPost_ret (v := .tuple #[wdVal zeroWd, .bool false]) (by simp [results, Tryd.results52, go_sem, d0, d1, d2, wdVal, zeroWd]) rfl ?_
      rw [HE.out]
      exact ⟨rfl, ((hb.setCell (Nat.le_refl _) _).setCell (Nat.le_refl _) _).setCell (Nat.le_refl _) _⟩

/-- The depth of a type that is at most room deep; none: it is not right. -/
def measureL (f : Ty → Option Nat) : List Ty → Nat → Option Nat
  | [], m => some m
  | a :: l, m => match f a with
    | none => none
    | some d => measureL f l (max m d)

def measureT : Nat → Ty → Option Nat
  | 0, _ => none
  | r + 1, t => match wordK t.kind with
    | none => none
    | some x => if (t.args.length : Int) = x.args then (measureL (measureT r) t.args 0).map (· + 1) else none

/-- What measure answers with. -/
def MeOut (o : Option Nat) (e : Ending) : Prop := e = .returned (.tuple #[.int .i64 ((o.getD 0 : Nat) : Int), .bool o.isSome])

theorem TyAt.below {w w' : World} {S : Nat → Prop} {d : Nat} {v : Value} {t : Ty} (h : TyAt w S d v t) (hb : Below w.heap.size w w') : TyAt w' S d v t :=
  h.move fun b hS hl => ⟨hS, fun _ => World.cell?_of_block (hb.block b hl)⟩

theorem wordK_mem {k : Int} {x : Wd} (h : wordK k = some x) : x ∈ words ∧ x.kind = k :=
  ⟨List.mem_of_find?_eq_some h, by have := List.find?_some h; simpa using this⟩

theorem measureL_le (f : Ty → Option Nat) (r : Nat) (hf : ∀ a d, f a = some d → d ≤ r) : ∀ (l : List Ty) (m d : Nat), m ≤ r → measureL f l m = some d → d ≤ r
  | [], m, d, hm, h => by simp [measureL] at h; omega
  | a :: l, m, d, hm, h => by
    unfold measureL at h
    cases hfa : f a with
    | none => simp [hfa] at h
    | some e =>
      simp only [hfa] at h
      exact measureL_le f r hf l (max m e) d (by have := hf a e hfa; omega) h

theorem measureT_le : ∀ (r : Nat) (t : Ty) (d : Nat), measureT r t = some d → d ≤ r
  | 0, t, d, h => by simp [measureT] at h
  | r + 1, t, d, h => by
    unfold measureT at h
    cases hw : wordK t.kind with
    | none => simp [hw] at h
    | some x =>
      simp only [hw] at h
      split at h
      · obtain ⟨m, hm, rfl⟩ := Option.map_eq_some_iff.1 h
        have := measureL_le (measureT r) r (measureT_le r) _ 0 m (by omega) hm
        omega
      · simp at h

set_option maxRecDepth 100000 in
set_option maxHeartbeats 400000 in
theorem measure_any : ∀ (r : Nat) (d : Nat) (S : Nat → Prop) (v : Value) (t : Ty) (w : World), r ≤ 6 → TyAt w S d v t → Glob w →
    Calls Tryd.prog 45 #[v, .int .i64 (r : Int)] w fun e w' => MeOut (measureT r t) e ∧ Below w.heap.size w w'
  | r, 0, _, _, _, _, _, h, _ => h.elim
  | 0, d + 1, S, v, t, w, _, h, hG => by
    obtain ⟨A, c, rfl, hlc, hA⟩ := h
    have HA := Lib.hid hA
    clear hA
    go_enter Tryd.func45, Tryd.ntmps45
    go_wp2_with (fail)
    refine (wordOf_any t.kind _ (hG.kept (Below.heap_alloc w _ 0 hG.lt))).mono ?_
    rintro e w1 ⟨he, hb⟩
    cases hw : wordK t.kind with
    | none =>
      rw [hw] at he
      obtain rfl : e = .returned (.tuple #[wdVal zeroWd, .bool false]) := he
      have HW := Lib.hid hw
      clear hw
      simp only [wdVal, zeroWd]
      go_wp2
      go_ret2
      exact ⟨rfl, (((Below.refl _ _).alloc (Nat.le_refl _) _).trans (hb.mono (by simp))).alloc (by have := hb.size; simp at this; omega) _⟩
    | some x =>
      rw [hw] at he
      obtain rfl : e = .returned (.tuple #[wdVal x, .bool true]) := he
      clear hw
      simp only [wdVal]
      go_wp2
      go_ret2
      exact ⟨rfl, (((Below.refl _ _).alloc (Nat.le_refl _) _).trans (hb.mono (by simp))).alloc (by have := hb.size; simp at this; omega) _⟩
  | r + 1, d + 1, S, v, t, w, hr, h, hG => by
    have hGl := hG.lt
    have IH := fun (d : Nat) => measure_any r d
    have HIH := Lib.hid IH
    have HT := Lib.hid h
    have hr0 : (((r : Int) + 1) == 0) = false := by simp; omega
    obtain ⟨A, c, rfl, hlc, hA⟩ := h
    have HA := Lib.hid hA
    clear hA IH
    rw [show ((r + 1 : Nat) : Int) = (r : Int) + 1 by omega]
    go_enter Tryd.func45, Tryd.ntmps45
    go_wp2_with (fail)
    refine (wordOf_any t.kind _ (hG.kept (Below.heap_alloc w _ 0 hG.lt))).mono ?_
    rintro e w1 ⟨he, hb⟩
    have hb1 := ((Below.refl w.heap.size w).alloc (Nat.le_refl _) _).trans (hb.mono (by simp : w.heap.size ≤ _))
    have hs1 := hb.size
    simp only [World.size_alloc] at hs1
    have hc1 := (hb.block w.heap.size (by simp)).trans (heap_alloc_new w _)
    have c0 := cell2_0 hc1
    have c1 := cell2_1 hc1
    have hlt1 : w.heap.size < w1.heap.size := by omega
    cases hw : wordK t.kind with
    | none =>
      rw [hw] at he
      obtain rfl : e = .returned (.tuple #[wdVal zeroWd, .bool false]) := he
      have HE : Hid (measureT (r + 1) t = none) := by show _ = _; simp only [measureT, hw]
      clear hw
      simp only [wdVal, zeroWd]
      go_wp2
      go_ret2
      rw [HE.out]
      exact ⟨rfl, hb1.alloc (by omega) _⟩
    | some x =>
      rw [hw] at he
      obtain rfl : e = .returned (.tuple #[wdVal x, .bool true]) := he
      simp only [wdVal]
      have hz : 0 < r + 1 := by omega
      by_cases hxa : (t.args.length : Int) = x.args
      · have hxe : ((t.args.length : Int) != x.args) = false := by simp [hxa]
        have HE : Hid (measureT (r + 1) t = (measureL (measureT r) t.args 0).map (· + 1)) := by show _ = _; simp only [measureT, hw, if_pos hxa]
        have hx2 := words_args x (wordK_mem hw).1
        clear hw
        have hlen2 : t.args.length ≤ 2 := by omega
        clear hxa
        go_wp2
        go_loopw [4, 35] (fun dm i wr => ∃ (j m : Nat), i = .int .i64 j ∧ dm = .int .i64 m ∧ j ≤ t.args.length ∧ m ≤ 6 ∧ Hid (measureL (measureT r) t.args 0 = measureL (measureT r) (t.args.drop j) m) ∧ Below w.heap.size w wr) (fun _ i _ => 10 - (intOf i).toNat)
        case atStart => exact ⟨0, 0, rfl, rfl, by omega, by omega, rfl, hb1.alloc (by omega) _⟩
        case round =>
          obtain ⟨j, m, rfl, rfl, hj, hm, HM, hbr⟩ := hrel
          have hsr := hbr.size
          by_cases hlt : j < t.args.length
          · obtain ⟨b, o, rfl, hS, hcells⟩ := HA.out (by omega)
            obtain ⟨u0, u1, h0, h1, h2⟩ := hcells j _ (List.getElem?_eq_getElem hlt)
            have hbl := World.block_lt_of_cell? w _ h0
            obtain ⟨A', c', he'⟩ := h2.form
            injection he' with he'
            obtain ⟨rfl, rfl⟩ : u0 = .int .i64 (t.args[j]).kind ∧ u1 = .slice A' (t.args[j]).args.length c' := by
              have := congrArg Array.toList he'
              simpa using this
            have k0 := (hbr.cell (p := ⟨b, o + j * 2, none⟩) hbl).trans h0
            have k1 := (hbr.cell (p := ⟨b, o + j * 2 + 1, none⟩) hbl).trans h1
            have hd : t.args.drop j = t.args[j] :: t.args.drop (j + 1) := List.drop_eq_getElem_cons hlt
            have HD := Lib.hid hd
            generalize t.args[j] = a at *
            have H2 := Lib.hid h2
            clear h0 h1 h2 hd hcells he'
            go_wp2_with (fail)
            refine (HIH.out d S _ a _ (by omega) ((H2.out.below hbr).below ((Below.refl _ wr).alloc (Nat.le_refl _) _)) ((hG.kept (hbr.block 0 hGl)).kept (Below.heap_alloc wr _ 0 (by omega)))).mono ?_
            rintro e w3 ⟨he, hb3⟩
            have hbr3 := (hbr.alloc (by omega) _).trans (hb3.mono (by simp; omega))
            have hs3 := hb3.size
            simp only [World.size_alloc] at hs3
            cases hme : measureT r a with
            | none =>
              rw [hme] at he
              obtain rfl : e = .returned (.tuple #[.int .i64 ((0 : Nat) : Int), .bool false]) := he
              have HF : Hid (measureT (r + 1) t = none) := by show _ = _; rw [HE.out, HM.out, HD.out]; simp only [measureL, hme, Option.map_none]
              clear hme
              go_wp2
              go_ret2
              rw [HF.out]
              exact ⟨rfl, hbr3⟩
            | some q =>
              rw [hme] at he
              obtain rfl : e = .returned (.tuple #[.int .i64 (q : Int), .bool true]) := he
              have hq6 := measureT_le r a q hme
              have HF : Hid (measureL (measureT r) t.args 0 = measureL (measureT r) (t.args.drop (j + 1)) (max m q)) := by show _ = _; rw [HM.out, HD.out]; simp only [measureL, hme]
              clear hme
              have hmx : ((max m q : Nat) : Int) = max (m : Int) (q : Int) := by omega
              have HMX := Lib.hid hmx
              clear hmx
              go_wp2
              go_roundw
              case rel => exact ⟨j + 1, max m q, by go_num, by rw [HMX.out]; first | rfl | (congr 1; split <;> omega), by omega, by omega, HF, hbr3⟩
              case measure => simp [intOf]; omega
          · have hF : measureT (r + 1) t = some (m + 1) := by rw [HE.out, HM.out, List.drop_of_length_le (by omega)]; rfl
            have HF := Lib.hid hF
            clear hF
            go_wp2
            go_ret2
            rw [HF.out]
            exact ⟨by go_num, hbr⟩
      · have hxe : ((t.args.length : Int) != x.args) = true := by simp [hxa]
        have HE : Hid (measureT (r + 1) t = none) := by show _ = _; simp only [measureT, hw, if_neg hxa]
        clear hw hxa
        go_wp2
        go_ret2
        rw [HE.out]
        exact ⟨rfl, hb1.alloc (by omega) _⟩

/-- What Depth and Check answer with. -/
def DeOut (o : Option Nat) (e : Ending) : Prop := e = .returned (.tuple #[.int .i64 ((o.getD 0 : Nat) : Int), .int .i64 (if o.isSome then 0 else 20)])

def ChOut (o : Option Nat) (e : Ending) : Prop := e = .returned (.int .i64 (if o.isSome then 0 else 20))

set_option maxRecDepth 100000 in
theorem depth_any (d : Nat) (S : Nat → Prop) (v : Value) (t : Ty) (w : World) (h : TyAt w S d v t) (hG : Glob w) :
    Calls Tryd.prog 28 #[v] w fun e w' => DeOut (measureT 6 t) e ∧ Below w.heap.size w w' := by
  have HT := Lib.hid h
  obtain ⟨A, c, rfl⟩ := h.form
  go_enter Tryd.func28, Tryd.ntmps28
  go_wp2_with (fail)
  refine (measure_any 6 d S _ t _ (by omega) (HT.out.below ((Below.refl _ w).alloc (Nat.le_refl _) _)) (hG.kept (Below.heap_alloc w _ 0 hG.lt))).mono ?_
  rintro e w1 ⟨he, hb⟩
  have hb1 := ((Below.refl w.heap.size w).alloc (Nat.le_refl _) _).trans (hb.mono (by simp : w.heap.size ≤ _))
  cases hm : measureT 6 t with
  | none =>
    rw [hm] at he
    obtain rfl : e = .returned (.tuple #[.int .i64 ((0 : Nat) : Int), .bool false]) := he
    have HM := Lib.hid hm
    clear hm
    go_wp2
    go_ret2
    rw [HM.out]
    exact ⟨rfl, hb1⟩
  | some q =>
    rw [hm] at he
    obtain rfl : e = .returned (.tuple #[.int .i64 (q : Int), .bool true]) := he
    have HM := Lib.hid hm
    clear hm
    go_wp2
    go_ret2
    rw [HM.out]
    exact ⟨rfl, hb1⟩

set_option maxRecDepth 100000 in
theorem check_any (d : Nat) (S : Nat → Prop) (v : Value) (t : Ty) (w : World) (h : TyAt w S d v t) (hG : Glob w) :
    Calls Tryd.prog 17 #[v] w fun e w' => ChOut (measureT 6 t) e ∧ Below w.heap.size w w' := by
  have HT := Lib.hid h
  obtain ⟨A, c, rfl⟩ := h.form
  go_enter Tryd.func17, Tryd.ntmps17
  go_wp2_with (fail)
  refine (depth_any d S _ t _ (HT.out.below ((Below.refl _ w).alloc (Nat.le_refl _) _)) (hG.kept (Below.heap_alloc w _ 0 hG.lt))).mono ?_
  rintro e w1 ⟨he, hb⟩
  have hb1 := ((Below.refl w.heap.size w).alloc (Nat.le_refl _) _).trans (hb.mono (by simp : w.heap.size ≤ _))
  cases hm : measureT 6 t with
  | none =>
    rw [hm] at he
    obtain rfl : e = .returned (.tuple #[.int .i64 ((0 : Nat) : Int), .int .i64 20]) := he
    have HM := Lib.hid hm
    clear hm
    go_wp2
    go_ret
    rw [HM.out]
    exact ⟨rfl, hb1⟩
  | some q =>
    rw [hm] at he
    obtain rfl : e = .returned (.tuple #[.int .i64 (q : Int), .int .i64 0]) := he
    have HM := Lib.hid hm
    clear hm
    go_wp2
    go_ret
    rw [HM.out]
    exact ⟨rfl, hb1⟩

theorem measureL_all (f : Ty → Option Nat) : ∀ (l : List Ty) (m d : Nat), measureL f l m = some d → ∀ a ∈ l, ∃ q, f a = some q
  | [], m, d, h, a, ha => by simp at ha
  | b :: l, m, d, h, a, ha => by
    unfold measureL at h
    cases hfb : f b with
    | none => simp [hfb] at h
    | some e =>
      simp only [hfb] at h
      rcases List.mem_cons.1 ha with rfl | ha
      · exact ⟨e, hfb⟩
      · exact measureL_all f l _ d h a ha

/-- What a right type is. -/
theorem measure_right {r : Nat} {t : Ty} {q : Nat} (h : measureT (r + 1) t = some q) : ∃ x, wordK t.kind = some x ∧ (t.args.length : Int) = x.args ∧ x ∈ words ∧ ∀ a ∈ t.args, ∃ q, measureT r a = some q := by
  unfold measureT at h
  cases hw : wordK t.kind with
  | none => simp [hw] at h
  | some x =>
    simp only [hw] at h
    split at h
    · obtain ⟨m, hm, rfl⟩ := Option.map_eq_some_iff.1 h
      exact ⟨x, rfl, by assumption, (wordK_mem hw).1, measureL_all _ _ _ _ hm⟩
    · simp at h
end Go.Proofs.YtbafplnolmdlnaaDoor
