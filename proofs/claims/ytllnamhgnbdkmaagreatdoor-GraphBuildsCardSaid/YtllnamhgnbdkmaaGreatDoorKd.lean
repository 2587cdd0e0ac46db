/-
Ported from the texts of layer 2: Kd.
-/
import Derived.Test.YtllnamhgnbdkmaaGreatDoorKb
import Derived.Test.YtllnamhgnbdkmaaGreatDoorShelf
import Derived.Lib.OthersKept
import Derived.Lib.AppendStr
import Derived.LaidEqlPtr
namespace Go.Proofs.YtllnamhgnbdkmaaGreatDoor.Knd
open Go.RowKit
structure BFr (b : Nat) (w w' : World) : Prop where
  below : Below b w w'
  kept : Lib.OthersKept 5 (some b) w w'
theorem BFr.refl (b : Nat) (w : World) : BFr b w w := ⟨Below.refl _ _, Lib.OthersKept.refl _ _ _⟩
theorem BFr.trans {b : Nat} {x y z : World} (h : BFr b x y) (k : BFr b y z) : BFr b x z := ⟨h.below.trans k.below, h.kept.trans k.kept⟩
theorem BFr.alloc {b : Nat} {x y : World} (h : BFr b x y) (hb : b ≤ y.heap.size) (o : Obj) : BFr b x (y.alloc o) := ⟨h.below.alloc hb o, h.kept.alloc o⟩
theorem BFr.set_ {b : Nat} {x y : World} (h : BFr b x y) (i : Nat) (u : Value) : BFr b x (y.setCell ⟨b, i, none⟩ u) := ⟨h.below.setCell (Nat.le_refl _) u, h.kept.setCell _ rfl u⟩
theorem BFr.cells {b : Nat} {x y : World} (h : BFr b x y) {k : Nat} {cs : Array Value} {t : TypeId} (hk : x.heap[k]? = some (.cells cs t (0, 0))) (hb : k ≠ b) (ht : t ≠ 5) : y.heap[k]? = some (.cells cs t (0, 0)) :=
  h.kept k _ hk (fun e => hb (Option.some.inj e)) (fun c fz e => by injection e with _ e2 _; exact ht e2)
theorem info5 : (Tryz.prog.info? 5).map (fun i => (i.zero, i.size, i.bytes)) = some (some (.int .u8 0), 1, 1) := by kernel_rfl
theorem size68 : (Tryz.prog.info? 89).map (·.size) = some 2 := by kernel_rfl
set_option maxRecDepth 100000 in
theorem copyCheck_new (b : Nat) (v : Value) (w : World) (h : w.heap[b]? = some (.cells #[.pointer none, v] 89 (0, 0))) :
    Calls Tryz.prog 74 #[.pointer (some ⟨b, 0, none⟩)] w fun e w' => e = .returned (.tuple #[]) ∧ w' = w.setCell ⟨b, 0, none⟩ (.pointer (some ⟨b, 0, none⟩)) := by
  have c0 := cell2_0 h
  have f0 := cell3_f h 0
  have hsh : w.shape? b = some (89, 2) := by simp [World.shape?, h]
  obtain ⟨j, hj, hjs⟩ := Option.map_eq_some_iff.1 size68
  go_enter Tryz.func74, Tryz.ntmps74
  go_wp2
  rw [Lib.run_to_unsafe w ⟨b, 0, none⟩ Tryz.underlying86 Tryz.underlying153 hj (by rw [hjs]; decide) hsh (Nat.zero_lt_succ 1)]
  simp only [Result.andThen]
  rw [Oper.upon_value]
  go_wp2
  rw [run_callFunc_extern Tryz.func97 (by kernel_rfl) (by kernel_rfl) (by kernel_rfl) (e := Extern.AbiNoEscape.same) (by kernel_rfl)]
  rw [Lib.run_noEscape]
  simp only [Result.andThen]
  rw [Oper.upon_value]
  go_wp2
  rw [Lib.run_from_unsafe w ⟨b, 0, none⟩ Tryz.underlying153 Tryz.underlying86 hj hsh (by kernel_rfl)]
  simp only [Result.andThen]
  rw [Oper.upon_value]
  go_wp2
  go_end0
  exact ⟨rfl, rfl⟩
set_option maxRecDepth 100000 in
theorem copyCheck_used (b : Nat) (v : Value) (w : World) (h : w.heap[b]? = some (.cells #[.pointer (some ⟨b, 0, none⟩), v] 89 (0, 0))) :
    Calls Tryz.prog 74 #[.pointer (some ⟨b, 0, none⟩)] w fun e w' => e = .returned (.tuple #[]) ∧ w' = w := by
  have c0 := cell2_0 h
  obtain ⟨j, hj, hjs⟩ := Option.map_eq_some_iff.1 size68
  go_enter Tryz.func74, Tryz.ntmps74
  go_wp2
  rw [Lib.run_neq_ptr_same w _ Tryz.underlying86 hj]
  go_wp2
  go_end0
  exact ⟨rfl, rfl⟩
def Bld (w : World) (b : Nat) (bs : List Value) : Prop := Lib.IsBuilder 89 5 b b bs w
theorem copyCheck_any (b : Nat) (bs : List Value) (w : World) (h : Bld w b bs) :
    Calls Tryz.prog 74 #[.pointer (some ⟨b, 0, none⟩)] w fun e w' => e = .returned (.tuple #[]) ∧ Lib.BuilderAt 89 5 b b (.pointer (some ⟨b, 0, none⟩)) bs w' ∧ BFr b w w' := by
  rcases h with h | h
  · obtain ⟨v, hb, _⟩ := h.2
    refine (copyCheck_new b v w hb).mono ?_
    rintro e w' ⟨rfl, rfl⟩
    exact ⟨rfl, h.used _, (BFr.refl b w).set_ _ _⟩
  · obtain ⟨v, hb, _⟩ := h.2
    refine (copyCheck_used b v w hb).mono ?_
    rintro e w' ⟨rfl, rfl⟩
    exact ⟨rfl, h, BFr.refl b _⟩
theorem own_kind {w : World} {B : Nat} {e : TypeId} {v : Value} {n : Nat} {xs : List Value} (h : w.ownsRow B e 1 v n xs) : ∀ g, v.ownBlock = some g → ∃ c fz, w.heap[g]? = some (.cells c e fz) := by
  intro g hg
  rcases h.2 with ⟨rfl, _⟩ | ⟨g', cap, cur, rfl, _, hh, _⟩
  · simp [Value.ownBlock] at hg
  · simp [Value.ownBlock] at hg
    subst hg
    exact ⟨cur, _, hh⟩
theorem bfr_put {b : Nat} {w0 w w1 : World} {v v' : Value} {n : Nat} {xs : List Value} (h : BFr b w0 w) (hown : w.ownsRow b 5 1 v n xs) (hg : w.grownBy w1 v.ownBlock) (hb : b ≤ w.heap.size) : BFr b w0 (w1.setCell ⟨b, 1, none⟩ v') :=
  BFr.set_ ⟨h.below.grown hg hb (fun k hk => (hown.lt k hk).1), h.kept.grown hg (own_kind hown)⟩ 1 v'
set_option maxRecDepth 100000 in
theorem writeString_any (b : Nat) (bs : List Value) (s : ByteArray) (w : World) (h : Bld w b bs) (hl : bs.length + s.size ≤ 1000000000) :
    Calls Tryz.prog 43 #[.pointer (some ⟨b, 0, none⟩), .string s] w fun e w' => e = .returned (.tuple #[.int .i64 s.size, .nilIface]) ∧ Bld w' b (bs ++ Lib.strCells s) ∧ BFr b w w' := by
  obtain ⟨i0, hi, hq0, hq1, hq2⟩ := info_parts info5
  go_enter Tryz.func43, Tryz.ntmps43
  go_wp2_with (fail)
  refine (copyCheck_any b bs w h).mono ?_
  rintro e w1 ⟨rfl, ⟨_, v, hb, hown, hne⟩, hf⟩
  have c0 := cell2_0 hb
  have c1 := cell2_1 hb
  have f0 := cell3_f hb 0
  have f1 := cell3_f hb 1
  have hbl := cell_lt hb
  go_wp2_with (at_builtin; refine Lib.wpList_append_own_string _ rfl _ _ 87 9 rfl b 5 i0 Tryz.underlying87 Tryz.underlying9 hi hq0 hq1 hq2 v bs.length bs rfl hown s rfl (by unfold maxLen; omega) (by omega) (by omega) ?_; intro v' w2 hown2 hg2 _; obtain ⟨A2, c2, rfl⟩ := own_slice hown2; have hb2 := (hg2.block b hbl (fun e => hne e.symm)).trans hb; have d1 := cell2_1 hb2; have g1 := cell3_f hb2 1)
  go_ret2
  have hlen : (bs ++ Lib.strCells s).length = bs.length + s.size := by simp [Lib.strCells]
  refine ⟨rfl, .inr (Lib.BuilderAt.put (Nat.le_refl _) hb2 (by rw [hlen]; exact hown2) (by decide)), hf.trans (bfr_put (BFr.refl b w1) hown hg2 (by omega))⟩
set_option maxRecDepth 100000 in
theorem writeByte_any (b : Nat) (bs : List Value) (c : Int) (w : World) (h : Bld w b bs) (hl : bs.length ≤ 1000000000) :
    Calls Tryz.prog 45 #[.pointer (some ⟨b, 0, none⟩), .int .u8 c] w fun e w' => e = .returned .nilIface ∧ Bld w' b (bs ++ [.int .u8 c]) ∧ BFr b w w' := by
  obtain ⟨i0, hi, hq0, hq1, hq2⟩ := info_parts info5
  go_enter Tryz.func45, Tryz.ntmps45
  go_wp2_with (fail)
  refine (copyCheck_any b bs w h).mono ?_
  rintro e w1 ⟨rfl, ⟨_, v, hb, hown, hne⟩, hf⟩
  have c0 := cell2_0 hb
  have c1 := cell2_1 hb
  have f0 := cell3_f hb 0
  have f1 := cell3_f hb 1
  have hbl := cell_lt hb
  go_wp2_with (at_builtin; refine wpList_append_own _ rfl _ _ 87 rfl b 5 i0 (.int .u8 0) 1 1 Tryz.underlying87 hi hq0 hq1 hq2 rfl (by decide) v bs.length bs rfl (hown.alloc _) ⟨w1.heap.size, 0, none⟩ 1 1 [.int .u8 c] rfl rfl (cell_one_new' _ _ _ _ rfl) (by intro u hu; simp at hu; subst hu; rfl) (by unfold maxLen; omega) (by omega) (by simp; omega) ?_; intro v' w2 hown2 hg2 _; obtain ⟨A2, c2, rfl⟩ := own_slice hown2; have hb2 := (hg2.block b (by simp; omega) (fun e => hne e.symm)).trans ((Below.heap_alloc w1 _ b hbl).trans hb); have d1 := cell2_1 hb2; have g1 := cell3_f hb2 1)
  go_ret
  refine ⟨rfl, .inr (Lib.BuilderAt.put (Nat.le_refl _) hb2 (by simpa using hown2) (by decide)), hf.trans (bfr_put ((BFr.refl b w1).alloc (by omega) _) (hown.alloc _) hg2 (by simp; omega))⟩
def wordK (k : Int) : Option Wd := words.find? fun x => x.kind == k
def WoOut (o : Option Wd) (e : Ending) : Prop := e = .returned (.tuple #[wdVal (o.getD zeroWd), .bool o.isSome])
set_option maxRecDepth 100000 in
set_option maxHeartbeats 400000 in
theorem wordOf_any (n : Int) (w : World) (hG : Glob w) :
    Calls Tryz.prog 136 #[.int .i64 n] w fun e w' => WoOut (wordK n) e ∧ Below w.heap.size w w' := by
  have hGl := hG.lt
  obtain ⟨tt, fr, hg1⟩ := hG.kept (Below.heap_alloc w (.cells #[.int .i64 0, .int .i64 0, .string ⟨#[]⟩] 182) 2 hGl)
  go_enter Tryz.func136, Tryz.ntmps136
  go_wp2_with (refine wpList_load_row rfl 196 _ rfl 2 rfl tt _ fr _ hg1 Tryz.underlying196 rfl (by kernel_rfl) ?_)
  go_loopw [7] (fun i wr => ∃ k : Nat, k ≤ 8 ∧ i = .int .i64 k ∧ Hid (wordK n = (words.drop k).find? fun x => x.kind == n) ∧ Below w.heap.size w wr ∧ w.heap.size < wr.heap.size ∧ wr.heap[w.heap.size]? = some (.cells #[.int .i64 0, .int .i64 0, .string ⟨#[]⟩] 182 (0, 0))) (fun i _ => 8 - (intOf i).toNat)
  case atStart => exact ⟨0, Nat.zero_le _, rfl, rfl, (Below.refl _ _).alloc (Nat.le_refl _) _, by simp, heap_alloc_new w _⟩
  case round =>
    obtain ⟨k, hk, rfl, HK, hb, hz, hc⟩ := hrel
    have d0 := cell3_0 hc
    have d1 := cell3_1 hc
    have d2 := cell3_2 hc
    have e0 := cell3_f hc 0
    have e1 := cell3_f hc 1
    have e2 := cell3_f hc 2
    by_cases hlk : k < 8
    · obtain ⟨x, hx⟩ : ∃ x, words[k]? = some x := ⟨words[k]'hlk, List.getElem?_eq_getElem hlk⟩
      have hwa := words_at k x hx
      have hd : words.drop k = x :: words.drop (k + 1) := by
        rw [List.drop_eq_getElem_cons hlk]
        rw [List.getElem?_eq_getElem hlk] at hx
        injection hx with hx
        rw [hx]
      have HD := Lib.hid hd
      clear hd hx
      by_cases hkd : x.kind = n
      · have hke : (x.kind == n) = true := by simp [hkd]
        have HE : Hid (wordK n = some x) := by show _ = _; rw [HK.out, HD.out, List.find?_cons_of_pos (by simpa using hke)]
        clear hkd
        go_wp2
        refine bodyPost_ret (v := .tuple #[wdVal x, .bool true]) (by simp [results, Tryz.results136, go_sem, d0, d1, d2, wdVal, hz]) rfl ?_
        rw [HE.out]
        exact ⟨rfl, (((hb.setCell (Nat.le_refl _) _).setCell (Nat.le_refl _) _).setCell (Nat.le_refl _) _).alloc (by simp [World.setCell]; omega) _⟩
      · have hke : (x.kind == n) = false := by simp [hkd]
        have HE : Hid (wordK n = (words.drop (k + 1)).find? fun x => x.kind == n) := by show _ = _; rw [HK.out, HD.out, List.find?_cons_of_neg (by simp [hkd])]
        clear hkd
        go_wp2
        go_roundw
        case rel => exact ⟨k + 1, by omega, by go_num, HE, hb.alloc (by omega) _, by simp; omega, (Below.heap_alloc wr _ _ hz).trans hc⟩
        case measure => simp [intOf]; omega
    · obtain rfl : k = 8 := by omega
      have HE : Hid (wordK n = none) := by show _ = _; rw [HK.out]; rfl
      go_wp2
      refine bodyPost_ret (v := .tuple #[wdVal zeroWd, .bool false]) (by simp [results, Tryz.results136, go_sem, d0, d1, d2, wdVal, zeroWd]) rfl ?_
      rw [HE.out]
      exact ⟨rfl, ((hb.setCell (Nat.le_refl _) _).setCell (Nat.le_refl _) _).setCell (Nat.le_refl _) _⟩
def measureL (f : Ty → Option Nat) : List Ty → Nat → Option Nat
  | [], m => some m
  | a :: l, m => match f a with
    | none => none
    | some d => measureL f l (max m d)
def measureT : Nat → Ty → Option Nat
  | 0, _ => none
  | r + 1, t => match wordK t.kind with
    | none => none
    | some x => if (t.args.length : Int) = x.args then (measureL (measureT r) t.args 0).map (· + 1) else none
def MeOut (o : Option Nat) (e : Ending) : Prop := e = .returned (.tuple #[.int .i64 ((o.getD 0 : Nat) : Int), .bool o.isSome])
theorem wordK_mem {k : Int} {x : Wd} (h : wordK k = some x) : x ∈ words ∧ x.kind = k :=
  ⟨List.mem_of_find?_eq_some h, by have := List.find?_some h; simpa using this⟩
theorem measureL_le (f : Ty → Option Nat) (r : Nat) (hf : ∀ a d, f a = some d → d ≤ r) : ∀ (l : List Ty) (m d : Nat), m ≤ r → measureL f l m = some d → d ≤ r
  | [], m, d, hm, h => by simp [measureL] at h; omega
  | a :: l, m, d, hm, h => by
    unfold measureL at h
    cases hfa : f a with
    | none => simp [hfa] at h
    | some e =>
      simp only [hfa] at h
      exact measureL_le f r hf l (max m e) d (by have := hf a e hfa; omega) h
theorem measureT_le : ∀ (r : Nat) (t : Ty) (d : Nat), measureT r t = some d → d ≤ r
  | 0, t, d, h => by simp [measureT] at h
  | r + 1, t, d, h => by
    unfold measureT at h
    cases hw : wordK t.kind with
    | none => simp [hw] at h
    | some x =>
      simp only [hw] at h
      split at h
      · obtain ⟨m, hm, rfl⟩ := Option.map_eq_some_iff.1 h
        have := measureL_le (measureT r) r (measureT_le r) _ 0 m (by omega) hm
        omega
      · simp at h
set_option maxRecDepth 100000 in
set_option maxHeartbeats 400000 in
theorem measure_any : ∀ (r : Nat) (d : Nat) (S : Nat → Prop) (v : Value) (t : Ty) (w : World), r ≤ 6 → TyAt w S d v t → Glob w →
    Calls Tryz.prog 133 #[v, .int .i64 (r : Int)] w fun e w' => MeOut (measureT r t) e ∧ Below w.heap.size w w'
  | r, 0, _, _, _, _, _, h, _ => h.elim
  | 0, d + 1, S, v, t, w, _, h, hG => by
    obtain ⟨A, c, rfl, hlc, hA⟩ := h
    have HA := Lib.hid hA
    clear hA
    go_enter Tryz.func133, Tryz.ntmps133
    go_wp2_with (fail)
    refine (wordOf_any t.kind _ (hG.kept (Below.heap_alloc w _ 2 hG.lt))).mono ?_
    rintro e w1 ⟨he, hb⟩
    cases hw : wordK t.kind with
    | none =>
      rw [hw] at he
      obtain rfl : e = .returned (.tuple #[wdVal zeroWd, .bool false]) := he
      have HW := Lib.hid hw
      clear hw
      simp only [wdVal, zeroWd]
      go_wp2
      go_ret2
      exact ⟨rfl, (((Below.refl _ _).alloc (Nat.le_refl _) _).trans (hb.mono (by simp))).alloc (by have := hb.size; simp at this; omega) _⟩
    | some x =>
      rw [hw] at he
      obtain rfl : e = .returned (.tuple #[wdVal x, .bool true]) := he
      clear hw
      simp only [wdVal]
      go_wp2
      go_ret2
      exact ⟨rfl, (((Below.refl _ _).alloc (Nat.le_refl _) _).trans (hb.mono (by simp))).alloc (by have := hb.size; simp at this; omega) _⟩
  | r + 1, d + 1, S, v, t, w, hr, h, hG => by
    have hGl := hG.lt
    have IH := fun (d : Nat) => measure_any r d
    have HIH := Lib.hid IH
    have HT := Lib.hid h
    have hr0 : (((r : Int) + 1) == 0) = false := by simp; omega
    obtain ⟨A, c, rfl, hlc, hA⟩ := h
    have HA := Lib.hid hA
    clear hA IH
    rw [show ((r + 1 : Nat) : Int) = (r : Int) + 1 by omega]
    go_enter Tryz.func133, Tryz.ntmps133
    go_wp2_with (fail)
    refine (wordOf_any t.kind _ (hG.kept (Below.heap_alloc w _ 2 hG.lt))).mono ?_
    rintro e w1 ⟨he, hb⟩
    have hb1 := ((Below.refl w.heap.size w).alloc (Nat.le_refl _) _).trans (hb.mono (by simp : w.heap.size ≤ _))
    have hs1 := hb.size
    simp only [World.size_alloc] at hs1
    have hc1 := (hb.block w.heap.size (by simp)).trans (heap_alloc_new w _)
    have c0 := cell2_0 hc1
    have c1 := cell2_1 hc1
    have hlt1 : w.heap.size < w1.heap.size := by omega
    cases hw : wordK t.kind with
    | none =>
      rw [hw] at he
      obtain rfl : e = .returned (.tuple #[wdVal zeroWd, .bool false]) := he
      have HE : Hid (measureT (r + 1) t = none) := by show _ = _; simp only [measureT, hw]
      clear hw
      simp only [wdVal, zeroWd]
      go_wp2
      go_ret2
      rw [HE.out]
      exact ⟨rfl, hb1.alloc (by omega) _⟩
    | some x =>
      rw [hw] at he
      obtain rfl : e = .returned (.tuple #[wdVal x, .bool true]) := he
      simp only [wdVal]
      have hz : 0 < r + 1 := by omega
      by_cases hxa : (t.args.length : Int) = x.args
      · have hxe : ((t.args.length : Int) != x.args) = false := by simp [hxa]
        have HE : Hid (measureT (r + 1) t = (measureL (measureT r) t.args 0).map (· + 1)) := by show _ = _; simp only [measureT, hw, if_pos hxa]
        have hx2 := words_args x (wordK_mem hw).1
        clear hw
        have hlen2 : t.args.length ≤ 2 := by omega
        clear hxa
        go_wp2
        go_loopw [4, 35] (fun dm i wr => ∃ (j m : Nat), i = .int .i64 j ∧ dm = .int .i64 m ∧ j ≤ t.args.length ∧ m ≤ 6 ∧ Hid (measureL (measureT r) t.args 0 = measureL (measureT r) (t.args.drop j) m) ∧ Below w.heap.size w wr) (fun _ i _ => 10 - (intOf i).toNat)
        case atStart => exact ⟨0, 0, rfl, rfl, by omega, by omega, rfl, hb1.alloc (by omega) _⟩
        case round =>
          obtain ⟨j, m, rfl, rfl, hj, hm, HM, hbr⟩ := hrel
          have hsr := hbr.size
          by_cases hlt : j < t.args.length
          · obtain ⟨b, o, rfl, hS, hcells⟩ := HA.out (by omega)
            obtain ⟨u0, u1, h0, h1, h2⟩ := hcells j _ (List.getElem?_eq_getElem hlt)
            have hbl := World.block_lt_of_cell? w _ h0
            obtain ⟨A', c', he'⟩ := h2.form
            injection he' with he'
            obtain ⟨rfl, rfl⟩ : u0 = .int .i64 (t.args[j]).kind ∧ u1 = .slice A' (t.args[j]).args.length c' := by
              have := congrArg Array.toList he'
              simpa using this
            have k0 := (hbr.cell (p := ⟨b, o + j * 2, none⟩) hbl).trans h0
            have k1 := (hbr.cell (p := ⟨b, o + j * 2 + 1, none⟩) hbl).trans h1
            have hd : t.args.drop j = t.args[j] :: t.args.drop (j + 1) := List.drop_eq_getElem_cons hlt
            have HD := Lib.hid hd
            generalize t.args[j] = a at *
            have H2 := Lib.hid h2
            clear h0 h1 h2 hd hcells he'
            go_wp2_with (fail)
            refine (HIH.out d S _ a _ (by omega) ((H2.out.below hbr).below ((Below.refl _ wr).alloc (Nat.le_refl _) _)) ((hG.kept (hbr.block 2 hGl)).kept (Below.heap_alloc wr _ 2 (by omega)))).mono ?_
            rintro e w3 ⟨he, hb3⟩
            have hbr3 := (hbr.alloc (by omega) _).trans (hb3.mono (by simp; omega))
            have hs3 := hb3.size
            simp only [World.size_alloc] at hs3
            cases hme : measureT r a with
            | none =>
              rw [hme] at he
              obtain rfl : e = .returned (.tuple #[.int .i64 ((0 : Nat) : Int), .bool false]) := he
              have HF : Hid (measureT (r + 1) t = none) := by show _ = _; rw [HE.out, HM.out, HD.out]; simp only [measureL, hme, Option.map_none]
              clear hme
              go_wp2
              go_ret2
              rw [HF.out]
              exact ⟨rfl, hbr3⟩
            | some q =>
              rw [hme] at he
              obtain rfl : e = .returned (.tuple #[.int .i64 (q : Int), .bool true]) := he
              have hq6 := measureT_le r a q hme
              have HF : Hid (measureL (measureT r) t.args 0 = measureL (measureT r) (t.args.drop (j + 1)) (max m q)) := by show _ = _; rw [HM.out, HD.out]; simp only [measureL, hme]
              clear hme
              have hmx : ((max m q : Nat) : Int) = max (m : Int) (q : Int) := by omega
              have HMX := Lib.hid hmx
              clear hmx
              go_wp2
              go_roundw
              case rel => exact ⟨j + 1, max m q, by go_num, by rw [HMX.out]; first | rfl | trace_state, by omega, by omega, HF, hbr3⟩
              case measure => simp [intOf]; omega
          · have hF : measureT (r + 1) t = some (m + 1) := by rw [HE.out, HM.out, List.drop_of_length_le (by omega)]; rfl
            have HF := Lib.hid hF
            clear hF
            go_wp2
            go_ret2
            rw [HF.out]
            exact ⟨by go_num, hbr⟩
      · have hxe : ((t.args.length : Int) != x.args) = true := by simp [hxa]
        have HE : Hid (measureT (r + 1) t = none) := by show _ = _; simp only [measureT, hw, if_neg hxa]
        clear hw hxa
        go_wp2
        go_ret2
        rw [HE.out]
        exact ⟨rfl, hb1.alloc (by omega) _⟩
def DeOut (o : Option Nat) (e : Ending) : Prop := e = .returned (.tuple #[.int .i64 ((o.getD 0 : Nat) : Int), .int .i64 (if o.isSome then 0 else 20)])
def ChOut (o : Option Nat) (e : Ending) : Prop := e = .returned (.int .i64 (if o.isSome then 0 else 20))
set_option maxRecDepth 100000 in
theorem depth_any (d : Nat) (S : Nat → Prop) (v : Value) (t : Ty) (w : World) (h : TyAt w S d v t) (hG : Glob w) :
    Calls Tryz.prog 116 #[v] w fun e w' => DeOut (measureT 6 t) e ∧ Below w.heap.size w w' := by
  have HT := Lib.hid h
  obtain ⟨A, c, rfl⟩ := h.form
  go_enter Tryz.func116, Tryz.ntmps116
  go_wp2_with (fail)
  refine (measure_any 6 d S _ t _ (by omega) (HT.out.below ((Below.refl _ w).alloc (Nat.le_refl _) _)) (hG.kept (Below.heap_alloc w _ 2 hG.lt))).mono ?_
  rintro e w1 ⟨he, hb⟩
  have hb1 := ((Below.refl w.heap.size w).alloc (Nat.le_refl _) _).trans (hb.mono (by simp : w.heap.size ≤ _))
  cases hm : measureT 6 t with
  | none =>
    rw [hm] at he
    obtain rfl : e = .returned (.tuple #[.int .i64 ((0 : Nat) : Int), .bool false]) := he
    have HM := Lib.hid hm
    clear hm
    go_wp2
    go_ret2
    rw [HM.out]
    exact ⟨rfl, hb1⟩
  | some q =>
    rw [hm] at he
    obtain rfl : e = .returned (.tuple #[.int .i64 (q : Int), .bool true]) := he
    have HM := Lib.hid hm
    clear hm
    go_wp2
    go_ret2
    rw [HM.out]
    exact ⟨rfl, hb1⟩
set_option maxRecDepth 100000 in
theorem check_any (d : Nat) (S : Nat → Prop) (v : Value) (t : Ty) (w : World) (h : TyAt w S d v t) (hG : Glob w) :
    Calls Tryz.prog 90 #[v] w fun e w' => ChOut (measureT 6 t) e ∧ Below w.heap.size w w' := by
  have HT := Lib.hid h
  obtain ⟨A, c, rfl⟩ := h.form
  go_enter Tryz.func90, Tryz.ntmps90
  go_wp2_with (fail)
  refine (depth_any d S _ t _ (HT.out.below ((Below.refl _ w).alloc (Nat.le_refl _) _)) (hG.kept (Below.heap_alloc w _ 2 hG.lt))).mono ?_
  rintro e w1 ⟨he, hb⟩
  have hb1 := ((Below.refl w.heap.size w).alloc (Nat.le_refl _) _).trans (hb.mono (by simp : w.heap.size ≤ _))
  cases hm : measureT 6 t with
  | none =>
    rw [hm] at he
    obtain rfl : e = .returned (.tuple #[.int .i64 ((0 : Nat) : Int), .int .i64 20]) := he
    have HM := Lib.hid hm
    clear hm
    go_wp2
    go_ret
    rw [HM.out]
    exact ⟨rfl, hb1⟩
  | some q =>
    rw [hm] at he
    obtain rfl : e = .returned (.tuple #[.int .i64 (q : Int), .int .i64 0]) := he
    have HM := Lib.hid hm
    clear hm
    go_wp2
    go_ret
    rw [HM.out]
    exact ⟨rfl, hb1⟩
def textL (f : Ty → List UInt8) : List Ty → Nat → List UInt8
  | [], _ => []
  | a :: l, i => aheadB i :: (f a ++ textL f l (i + 1))
def textT : Nat → Ty → List UInt8
  | 0, _ => []
  | r + 1, t => ((wordK t.kind).getD zeroWd).name.data.toList ++ textL (textT r) t.args 0 ++ (if 0 < t.args.length then [41] else [])
theorem textL_snoc (f : Ty → List UInt8) : ∀ (l : List Ty) (a : Ty) (i : Nat), textL f (l ++ [a]) i = textL f l i ++ aheadB (i + l.length) :: f a
  | [], a, i => by simp [textL]
  | b :: l, a, i => by
    simp only [List.cons_append, textL, textL_snoc f l a (i + 1), List.length_cons, List.append_assoc]
    rw [show i + 1 + l.length = i + (l.length + 1) by omega]
theorem textL_append (f : Ty → List UInt8) : ∀ (l m : List Ty) (i : Nat), textL f (l ++ m) i = textL f l i ++ textL f m (i + l.length)
  | [], m, i => by simp [textL]
  | b :: l, m, i => by
    simp only [List.cons_append, textL, textL_append f l m (i + 1), List.length_cons, List.append_assoc]
    rw [show i + 1 + l.length = i + (l.length + 1) by omega]
theorem textL_room (f : Ty → List UInt8) (l : List Ty) (j : Nat) (a : Ty) (hd : l.drop j = a :: l.drop (j + 1)) : (textL f (l.take j) 0).length + (1 + (f a).length) ≤ (textL f l 0).length := by
  have h : textL f l 0 = textL f (l.take j ++ l.drop j) 0 := by rw [List.take_append_drop]
  rw [h, textL_append, hd]
  simp only [textL, List.length_append, List.length_cons]
  omega
def bc (l : List UInt8) : List Value := Lib.byteCells l
theorem bc_append (l m : List UInt8) : bc (l ++ m) = bc l ++ bc m := by simp [bc, Lib.byteCells]
theorem bc_len (l : List UInt8) : (bc l).length = l.length := by simp [bc, Lib.byteCells]
theorem bc_str (s : ByteArray) : Lib.strCells s = bc s.data.toList := by simp [bc, Lib.byteCells, Lib.strCells]
theorem measureL_all (f : Ty → Option Nat) : ∀ (l : List Ty) (m d : Nat), measureL f l m = some d → ∀ a ∈ l, ∃ q, f a = some q
  | [], m, d, h, a, ha => by simp at ha
  | b :: l, m, d, h, a, ha => by
    unfold measureL at h
    cases hfb : f b with
    | none => simp [hfb] at h
    | some e =>
      simp only [hfb] at h
      rcases List.mem_cons.1 ha with rfl | ha
      · exact ⟨e, hfb⟩
      · exact measureL_all f l _ d h a ha
theorem measure_right {r : Nat} {t : Ty} {q : Nat} (h : measureT (r + 1) t = some q) : ∃ x, wordK t.kind = some x ∧ (t.args.length : Int) = x.args ∧ x ∈ words ∧ ∀ a ∈ t.args, ∃ q, measureT r a = some q := by
  unfold measureT at h
  cases hw : wordK t.kind with
  | none => simp [hw] at h
  | some x =>
    simp only [hw] at h
    split at h
    · obtain ⟨m, hm, rfl⟩ := Option.map_eq_some_iff.1 h
      exact ⟨x, rfl, by assumption, (wordK_mem hw).1, measureL_all _ _ _ _ hm⟩
    · simp at h
theorem Bld.lt {w : World} {b : Nat} {bs : List Value} (h : Bld w b bs) : b < w.heap.size := by
  rcases h with ⟨_, v, hb, _⟩ | ⟨_, v, hb, _⟩ <;> exact cell_lt hb
theorem Bld.below {w w' : World} {b : Nat} {bs : List Value} (h : Bld w b bs) (hb : Below w.heap.size w w') : Bld w' b bs := by
  have hg : w.grownBy w' none := ⟨hb.os, hb.tape, hb.output, hb.size, fun k hk _ => hb.block k hk⟩
  have key : ∀ p, Lib.BuilderAt 89 5 b b p bs w → Lib.BuilderAt 89 5 b b p bs w' := fun p ⟨h1, v, h2, h3, h4⟩ =>
    ⟨h1, v, (hb.block b (cell_lt h2)).trans h2, h3.kept hg (by cases hv : v.ownBlock <;> simp), h4⟩
  exact h.elim (fun x => .inl (key _ x)) (fun x => .inr (key _ x))
theorem BFr.of_below {b : Nat} {w w' : World} (h : Below w.heap.size w w') (hb : b ≤ w.heap.size) : BFr b w w' :=
  ⟨h.mono hb, fun k _ hk _ _ => (h.block k (cell_lt hk)).trans hk⟩
set_option maxRecDepth 100000 in
set_option maxHeartbeats 1000000 in
theorem write_any : ∀ (r d : Nat) (S : Nat → Prop) (b : Nat) (v : Value) (t : Ty) (q : Nat) (bs : List UInt8) (w : World), TyAt w S d v t → measureT r t = some q → (∀ k, S k → k < b) → Bld w b (bc bs) → Glob w → 2 < b → b < w.heap.size → bs.length + (textT r t).length ≤ 1000000 →
    Calls Tryz.prog 120 #[.pointer (some ⟨b, 0, none⟩), v] w fun e w' => e = .returned (.tuple #[]) ∧ Bld w' b (bc (bs ++ textT r t)) ∧ BFr b w w'
  | 0, d, S, b, v, t, q, bs, w, hT, hm, hS, hB, hG, hb, hbl, hl => by simp [measureT] at hm
  | r + 1, 0, S, b, v, t, q, bs, w, hT, hm, hS, hB, hG, hb, hbl, hl => hT.elim
  | r + 1, d + 1, S, b, v, t, q, bs, w, hT, hm, hS, hB, hG, hb, hbl, hl => by
    obtain ⟨x, hx, hxa, hxw, hall⟩ := measure_right hm
    have IH := fun (d : Nat) => write_any r d
    have HIH := Lib.hid IH
    have HALL := Lib.hid hall
    have HX := Lib.hid hx
    have HXA := Lib.hid hxa
    have hx2 := words_args x hxw
    have hx6 := words_small x hxw
    have hlen2 : t.args.length ≤ 2 := by omega
    obtain ⟨A, c, rfl, hlc, hA⟩ := hT
    have HA := Lib.hid hA
    clear hA IH hall hx hxa hm
    go_enter Tryz.func120, Tryz.ntmps120
    go_wp2_with (fail)
    refine (wordOf_any t.kind _ (hG.kept (Below.heap_alloc w _ 2 hG.lt))).mono ?_
    rw [HX.out]
    rintro e w1 ⟨he, hb1⟩
    obtain rfl : e = .returned (.tuple #[wdVal x, .bool true]) := he
    have hs1 := hb1.size
    simp only [World.size_alloc] at hs1
    have hlt1 : w.heap.size < w1.heap.size := by omega
    have hc1 := (hb1.block w.heap.size (by simp)).trans (heap_alloc_new w _)
    have c0 := cell2_0 hc1
    have c1 := cell2_1 hc1
    simp only [wdVal]
    have hbw1 := ((Below.refl w.heap.size w).alloc (Nat.le_refl _) _).trans (hb1.mono (by simp : w.heap.size ≤ _))
    have hTT : Hid (textT (r + 1) t = x.name.data.toList ++ textL (textT r) t.args 0 ++ (if 0 < t.args.length then [41] else [])) := by
      show _ = _; simp only [textT, HX.out, Option.getD_some]
    have hnl : x.name.data.toList.length = x.name.size := by simp
    have hl' : bs.length + (x.name.size + (textL (textT r) t.args 0).length + 1) ≤ 1000001 := by
      have h := hl
      rw [hTT.out] at h
      simp only [List.length_append, hnl] at h
      omega
    have HL := Lib.hid hl
    clear hl
    go_wp2_with (fail)
    refine (writeString_any b (bc bs) x.name _ ((hB.below hbw1).below ((Below.refl _ w1).alloc (Nat.le_refl _) _)) (by rw [bc_len]; omega)).mono ?_
    rintro e w2 ⟨rfl, hB2, hF2⟩
    have hF := (BFr.of_below (hbw1.trans ((Below.refl _ w1).alloc (by omega) (.cells #[.int .i64 x.kind, .int .i64 x.args, .string x.name] 182))) (Nat.le_of_lt hbl)).trans hF2
    have hb2 := hF2.cells (k := w.heap.size) ((Below.heap_alloc w1 _ _ hlt1).trans hc1) (by omega) (by decide)
    have hd2 := hF2.cells (k := w1.heap.size) (heap_alloc_new w1 _) (by omega) (by decide)
    clear hc1 c0 c1 hF2
    have c0 := cell2_0 hb2
    have c1 := cell2_1 hb2
    have d1 := cell3_1 hd2
    have hsz2 := cell_lt hd2
    rw [bc_str, ← bc_append] at hB2
    go_wp2
    have HB2 := Lib.hid hB2
    have HF := Lib.hid hF
    clear hB2 hF
    go_loopw [21] (fun i wr => ∃ j : Nat, i = .int .i64 j ∧ j ≤ t.args.length ∧ Hid (Bld wr b (bc (bs ++ x.name.data.toList ++ textL (textT r) (t.args.take j) 0))) ∧ BFr b w wr ∧ wr.heap[w.heap.size]? = some (.cells #[.int .i64 t.kind, .slice A t.args.length c] 64 (0, 0)) ∧ wr.heap[w1.heap.size]? = some (.cells #[.int .i64 x.kind, .int .i64 x.args, .string x.name] 182 (0, 0))) (fun i _ => 10 - (intOf i).toNat)
    case atStart => exact ⟨0, rfl, by omega, by simpa [textL] using HB2, HF.out, hb2, hd2⟩
    case round =>
      obtain ⟨j, rfl, hj, HBr, hFr, hbr, hdr⟩ := hrel
      have r0 := cell2_0 hbr
      have r1 := cell2_1 hbr
      have q1 := cell3_1 hdr
      have hrs := cell_lt hdr
      by_cases hlt : j < t.args.length
      · obtain ⟨b', o, rfl, hSb, hcells⟩ := HA.out (by omega)
        obtain ⟨u0, u1, h0, h1, h2⟩ := hcells j _ (List.getElem?_eq_getElem hlt)
        have hb'b := hS b' hSb
        have hal := HALL.out _ (List.getElem_mem hlt)
        obtain ⟨A', c', he'⟩ := h2.form
        injection he' with he'
        obtain ⟨rfl, rfl⟩ : u0 = .int .i64 (t.args[j]).kind ∧ u1 = .slice A' (t.args[j]).args.length c' := by
          have := congrArg Array.toList he'
          simpa using this
        have k0 := (hFr.below.cell (p := ⟨b', o + j * 2, none⟩) hb'b).trans h0
        have k1 := (hFr.below.cell (p := ⟨b', o + j * 2 + 1, none⟩) hb'b).trans h1
        have hd : t.args.drop j = t.args[j] :: t.args.drop (j + 1) := List.drop_eq_getElem_cons hlt
        have hts : t.args.take (j + 1) = t.args.take j ++ [t.args[j]] := by rw [List.take_add_one, List.getElem?_eq_getElem hlt]; rfl
        generalize t.args[j] = a at *
        have hroom := textL_room (textT r) t.args j a hd
        have HTS : Hid (textL (textT r) (t.args.take (j + 1)) 0 = textL (textT r) (t.args.take j) 0 ++ aheadB j :: textT r a) := by
          show _ = _
          rw [hts, textL_snoc, List.length_take, Nat.min_eq_left (by omega), Nat.zero_add]
        have H2 := Lib.hid h2
        obtain ⟨q', hal⟩ := hal
        have HALL2 := Lib.hid hal
        have hah := ahead_at j (by omega)
        clear h0 h1 h2 hd hts hcells he' hal
        go_wp2_with (fail)
        refine (writeByte_any b _ ((aheadB j).toNat : Int) _ (HBr.out.below ((Below.refl _ wr).alloc (Nat.le_refl _) _)) (by rw [bc_len]; simp only [List.length_append, hnl]; omega)).mono ?_
        rintro e w4 ⟨rfl, hB4, hF4⟩
        have hF4' := (BFr.of_below ((Below.refl _ wr).alloc (Nat.le_refl _) (.cells #[.int .i64 a.kind, .slice A' a.args.length c'] 64)) (by omega)).trans hF4
        have hn4 := hF4.cells (k := wr.heap.size) (heap_alloc_new wr _) (by omega) (by decide)
        have hb4 := hF4'.cells hbr (by omega) (by decide)
        have hd4 := hF4'.cells hdr (by omega) (by decide)
        have n0 := cell2_0 hn4
        have n1 := cell2_1 hn4
        have hrs4 := cell_lt hn4
        go_wp2_with (fail)
        have hB4' : Bld w4 b (bc (bs ++ x.name.data.toList ++ textL (textT r) (t.args.take j) 0 ++ [aheadB j])) := by rw [bc_append]; exact hB4
        refine (HIH.out d S b _ a q' _ w4 (H2.out.move fun k hSk hk => ⟨hSk, fun _ => World.cell?_of_block (((hFr.trans hF4').below).block k (hS k hSk))⟩) HALL2.out hS hB4' (hG.kept (((hFr.trans hF4').below).block 2 hb)) hb (by omega) (by simp only [List.length_append, List.length_cons, List.length_nil, hnl]; omega)).mono ?_
        rintro e w5 ⟨rfl, hB5, hF5⟩
        have hb5 := hF5.cells hb4 (by omega) (by decide)
        have hd5 := hF5.cells hd4 (by omega) (by decide)
        go_wp2
        go_roundw
        case rel => exact ⟨j + 1, by go_num, by omega, by show Bld _ _ _; rw [HTS.out]; simpa using hB5, (hFr.trans hF4').trans hF5, hb5, hd5⟩
        case measure => simp [intOf]; omega
      · obtain rfl : j = t.args.length := by omega
        have HBr' : Hid (Bld wr b (bc (bs ++ x.name.data.toList ++ textL (textT r) t.args 0))) := by
          have h := HBr.out
          rw [List.take_length] at h
          exact h
        by_cases hpos : 0 < t.args.length
        · have hgt : decide (0 < x.args) = true := by have := HXA.out; simp; omega
          go_wp2_with (fail)
          refine (writeByte_any b _ 41 _ HBr'.out (by rw [bc_len]; simp only [List.length_append, hnl]; omega)).mono ?_
          rintro e w4 ⟨rfl, hB4, hF4⟩
          go_wp2
          go_end0
          refine ⟨rfl, ?_, hFr.trans hF4⟩
          rw [hTT.out, if_pos hpos, ← List.append_assoc, ← List.append_assoc, bc_append]
          exact hB4
        · have hgt : decide (0 < x.args) = false := by have := HXA.out; simp; omega
          go_wp2
          go_end0
          refine ⟨rfl, ?_, hFr⟩
          rw [hTT.out, if_neg hpos, List.append_nil, ← List.append_assoc]
          exact HBr'.out
theorem textL_small (f : Ty → List UInt8) (n : Nat) : ∀ (l : List Ty) (i : Nat), (∀ a ∈ l, (f a).length ≤ n) → (textL f l i).length ≤ l.length * (n + 1)
  | [], _, _ => by simp [textL]
  | a :: l, i, h => by
    have h1 := h a (List.mem_cons_self ..)
    have h2 := textL_small f n l (i + 1) (fun b hb => h b (List.mem_cons_of_mem _ hb))
    simp only [textL, List.length_cons, List.length_append, Nat.add_mul, Nat.one_mul] at *
    omega
theorem textT_small : ∀ (r : Nat) (t : Ty) (q : Nat), measureT r t = some q → (textT r t).length ≤ 9 * (2 ^ r - 1)
  | 0, t, q, h => by simp [measureT] at h
  | r + 1, t, q, h => by
    obtain ⟨x, hx, hxa, hxw, hall⟩ := measure_right h
    have h6 := words_small x hxw
    have ha := words_args x hxw
    have hl := textL_small (textT r) (9 * (2 ^ r - 1)) t.args 0 (fun a hm => by
      obtain ⟨q', hq⟩ := hall a hm
      exact textT_small r a q' hq)
    have hn : x.name.data.toList.length = x.name.size := by simp
    have hm : t.args.length * (9 * (2 ^ r - 1) + 1) ≤ 2 * (9 * (2 ^ r - 1) + 1) := Nat.mul_le_mul_right _ (by omega)
    have hp : 2 ^ (r + 1) = 2 * 2 ^ r := by rw [Nat.pow_succ, Nat.mul_comm]
    have hpos : 0 < 2 ^ r := Nat.pow_pos (by omega)
    simp only [textT, hx, Option.getD_some, List.length_append]
    have hif : (if 0 < t.args.length then [(41 : UInt8)] else []).length ≤ 1 := by split <;> simp
    omega
def ShOut (t : Ty) (e : Ending) : Option Nat → Prop
  | none => e = .returned (.tuple #[.string ⟨#[]⟩, .int .i64 20])
  | some _ => e = .returned (.tuple #[.string ⟨(textT 6 t).toArray⟩, .int .i64 0])
set_option maxRecDepth 100000 in
set_option maxHeartbeats 400000 in
theorem show_any (d : Nat) (S : Nat → Prop) (v : Value) (t : Ty) (w : World) (h : TyAt w S d v t) (hG : Glob w) :
    Calls Tryz.prog 99 #[v] w fun e w' => ShOut t e (measureT 6 t) ∧ Below w.heap.size w w' := by
  have hT : TyAt w (fun k => k < w.heap.size) d v t := h.move fun b _ hl => ⟨hl, fun _ => rfl⟩
  have hGl := hG.lt
  have HT := Lib.hid hT
  obtain ⟨A, c, rfl⟩ := h.form
  clear hT
  go_enter Tryz.func99, Tryz.ntmps99
  go_wp2_with (fail)
  refine (check_any d _ _ t _ (HT.out.below ((Below.refl _ w).alloc (Nat.le_refl _) _)) (hG.kept (Below.heap_alloc w _ 2 hG.lt))).mono ?_
  rintro e w1 ⟨he, hb⟩
  have hb1 := ((Below.refl w.heap.size w).alloc (Nat.le_refl _) _).trans (hb.mono (by simp : w.heap.size ≤ _))
  have hs1 := hb.size
  simp only [World.size_alloc] at hs1
  have hc1 := (hb.block w.heap.size (by simp)).trans (heap_alloc_new w _)
  have c0 := cell2_0 hc1
  have c1 := cell2_1 hc1
  have hlt1 : w.heap.size < w1.heap.size := by omega
  cases hm : measureT 6 t with
  | none =>
    rw [hm] at he
    obtain rfl : e = .returned (.int .i64 20) := he
    have HM := Lib.hid hm
    clear hm
    go_wp2
    go_ret2
    rw [HM.out]
    exact ⟨rfl, hb1⟩
  | some q =>
    rw [hm] at he
    obtain rfl : e = .returned (.int .i64 0) := he
    have hsm := textT_small 6 t q hm
    have HM := Lib.hid hm
    clear hm
    go_wp2_with (fail)
    have hB0 : Bld (w1.alloc (.cells #[.pointer none, .slice none 0 0] 89)) w1.heap.size (bc []) :=
      .inl ⟨Nat.le_refl _, .slice none 0 0, heap_alloc_new w1 _, World.ownsRow_nil _ _ _ _, by simp [Value.ownBlock]⟩
    have hb2 := hb1.trans ((Below.refl w.heap.size w1).alloc (by omega) (.cells #[.pointer none, .slice none 0 0] 89))
    refine (write_any 6 d (fun k => k < w.heap.size) w1.heap.size _ t q [] _ (HT.out.move fun b hS hl => ⟨hS, fun _ => World.cell?_of_block (hb2.block b hl)⟩) HM.out (fun k hk => by omega) hB0 (hG.kept (hb2.block 2 hGl)) (by omega) (by simp) (by simp only [List.length_nil]; omega)).mono ?_
    rintro e w3 ⟨rfl, hB3, hF3⟩
    have hs3 := hF3.below.size
    simp only [World.size_alloc] at hs3
    go_wp2_with (fail)
    refine (Tryz.Builder_String_any_k w1.heap.size w1.heap.size (textT 6 t) _ (Lib.IsBuilderF.of hB3) (by omega)).mono ?_
    rintro e w4 ⟨rfl, _, hb4, _⟩
    go_wp2
    go_ret2
    rw [HM.out]
    exact ⟨rfl, (hb2.trans (hF3.below.mono (by omega))).trans (hb4.mono (by omega))⟩
end Go.Proofs.YtllnamhgnbdkmaaGreatDoor.Knd
