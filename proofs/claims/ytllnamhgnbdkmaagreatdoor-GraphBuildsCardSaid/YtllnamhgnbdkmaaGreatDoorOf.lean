/-
Arguments that are terms, and fit: whether they may be gone through.
-/
import Derived.Test.YtllnamhgnbdkmaaGreatDoorRc3
import Derived.Test.YtllnamhgnbdkmaaGreatDoorKa
import Derived.ProofKit
import Derived.DataReads
import Derived.Lib.Hide
import Derived.StillTailTactics
import Derived.Test.YtllnamhgnbdkmaaGreatDoorKd
namespace Go.Proofs.YtllnamhgnbdkmaaGreatDoor
open Go.ChangeShapes Go.WideShapes Go.RowKit
theorem cellsK3 : Tryz.prog.cellsOf 3 = 1 := by kernel_rfl
theorem cellsK23 : Tryz.prog.cellsOf 62 = 1 := by kernel_rfl
set_option maxRecDepth 100000 in
theorem ty_open {H : Type} {enc : TypeId × Value → H} {w : World} {base : Nat} {sp : Nat → Bool} {held : Bool} : ∀ (fuel : Nat) (cs : List Value) (x : DataW H × List MemPlace), DataW.trod enc Tryz.prog w base sp held fuel 64 cs = some x →
    ∃ t, TyAt w (fun _ => True) fuel (.agg cs.toArray) t
  | 0, cs, x, h => by simp [DataW.trod] at h
  | fuel + 1, cs, x, h => by
    obtain ⟨xs, n, hn, hx, hl, hxl, hf⟩ := DataW.trod_struct Tryz.underlying64 h
    obtain rfl : n = fuel := by omega
    rw [Knd.cells24] at hl
    obtain ⟨c0, c1, rfl⟩ := list_two hl
    obtain ⟨x0, x1, rfl⟩ := list_two hxl
    have f0 : DataW.trod enc Tryz.prog w base sp held n 3 (([c0, c1].drop 0).take (Tryz.prog.cellsOf 3)) = some x0 := hf 0 _ rfl
    have f1 : DataW.trod enc Tryz.prog w base sp held n 62 (([c0, c1].drop 1).take (Tryz.prog.cellsOf 62)) = some x1 := hf 1 _ rfl
    rw [cellsK3] at f0
    rw [cellsK23] at f1
    obtain ⟨k, e0, _, _⟩ := DataW.trod_int Tryz.underlying3 (show DataW.trod enc Tryz.prog w base sp held n 3 [c0] = some x0 from f0)
    simp only [List.cons.injEq, and_true] at e0
    subst e0
    rcases DataW.trod_slice Tryz.underlying62 (show DataW.trod enc Tryz.prog w base sp held n 62 [c1] = some x1 from f1) with ⟨e1, _⟩ | ⟨a, len, cap, elems, rest, n', hn', e1, _, hb, hlc, _, hel, hcell, _⟩
    · simp only [List.cons.injEq, and_true] at e1
      subst e1
      exact ⟨.mk k [], none, 0, rfl, Nat.le_refl _, fun hl => absurd hl (by simp [Ty.args])⟩
    · simp only [List.cons.injEq, and_true] at e1
      subst e1
      rw [Knd.cells24] at hcell
      have key : ∀ i, i < len → ∃ t, ∃ u0 u1, w.cell? ((a.add (i * 2)).add 0) = some u0 ∧ w.cell? ((a.add (i * 2)).add 1) = some u1 ∧ TyAt w (fun _ => True) n' (.agg #[u0, u1]) t := fun i hi => by
        have h := hcell i hi
        rw [List.getElem?_eq_getElem (by omega)] at h
        obtain ⟨cs', hc, ht⟩ := Option.bind_eq_some_iff.1 h
        obtain ⟨_, hcl, hat⟩ := World.cells?_some hc
        obtain ⟨u0, u1, rfl⟩ := list_two hcl
        obtain ⟨t, hT⟩ := ty_open n' _ _ ht
        exact ⟨t, u0, u1, hat 0 (by omega), hat 1 (by omega), hT⟩
      obtain ⟨l, hll, hP⟩ := pick_list _ len key
      refine ⟨.mk k l, some a, cap, ?_, by show l.length ≤ cap; omega, fun hpos => ?_⟩
      · show Value.agg #[.int .i64 k, .slice (some a) len cap] = Value.agg #[.int .i64 k, .slice (some a) l.length cap]
        rw [hll]
      · have hp : 0 < len := by have : 0 < l.length := hpos; omega
        obtain ⟨_, u0, _, h0, _⟩ := key 0 hp
        have ha := spot_none h0
        have ha' : (a.add (0 * 2)).add 0 = a := by simp [Addr.add]
        rw [ha'] at ha
        refine ⟨a.block, a.off, by rw [← ha], trivial, fun j t hj => ?_⟩
        have hj' : l[j]? = some t := hj
        obtain ⟨u0, u1, h0, h1, hT⟩ := hP j t hj'
        rw [ha] at h0 h1
        refine ⟨u0, u1, ?_, ?_, TyAt.more n' n _ _ (by omega) hT⟩
        · rw [add_two0] at h0; exact h0
        · rw [add_two1] at h1; exact h1
def IntN : Nat → Nd → Prop
  | 0, _ => False
  | d + 1, n => -9223372036854775808 ≤ n.int ∧ n.int ≤ 9223372036854775807 ∧ ∀ k ∈ n.kids, IntN d k
theorem IntN.more : ∀ (d e : Nat) (n : Nd), d ≤ e → IntN d n → IntN e n
  | 0, _, _, _, h => h.elim
  | d + 1, e, n, hle, ⟨h0, h1, h2⟩ => by
    obtain ⟨e', rfl⟩ : ∃ e', e = e' + 1 := ⟨e - 1, by omega⟩
    exact ⟨h0, h1, fun k hk => IntN.more d e' k (by omega) (h2 k hk)⟩
theorem NdAt.more {w : World} {S : Nat → Prop} : ∀ (d e : Nat) (v : Value) (n : Nd), d ≤ e → NdAt w S d v n → NdAt w S e v n
  | 0, _, _, _, _, h => h.elim
  | d + 1, e, v, n, hle, ⟨A, c, K, k, hv, ht, hlk, h⟩ => by
    obtain ⟨e', rfl⟩ : ∃ e', e = e' + 1 := ⟨e - 1, by omega⟩
    refine ⟨A, c, K, k, hv, ht, hlk, fun hl => ?_⟩
    obtain ⟨b, o, hK, hS, hj⟩ := h hl
    refine ⟨b, o, hK, hS, fun j a ha => ?_⟩
    obtain ⟨u0, u1, u2, u3, u4, u5, h0, h1, h2, h3, h4, h5, h6⟩ := hj j a ha
    exact ⟨u0, u1, u2, u3, u4, u5, h0, h1, h2, h3, h4, h5, NdAt.more d e' _ _ (by omega) h6⟩
def Nar : Nat → Ty → Prop
  | 0, _ => False
  | d + 1, t => t.args.length ≤ 5000 ∧ ∀ a ∈ t.args, Nar d a
def SmOut (dep : Nat) (t : Ty) (l : Int) (L : Nat) (e : Ending) (w' : World) : Prop :=
  ∃ (b : Bool) (l' : Int), e = .returned (.bool b) ∧ w'.heap[L]? = some (.cells #[.int .i64 l'] 3 (0, 0)) ∧ l' < l ∧ -1 ≤ l' ∧ (b = true → 0 ≤ l' ∧ Nar dep t)
end Go.Proofs.YtllnamhgnbdkmaaGreatDoor
namespace Go.Proofs.YtllnamhgnbdkmaaGreatDoor
open Go.ChangeShapes Go.WideShapes Go.RowKit
end Go.Proofs.YtllnamhgnbdkmaaGreatDoor
namespace Go.Proofs.YtllnamhgnbdkmaaGreatDoor
open Go.RowKit
theorem info37 : (Tryz.prog.info? 45).map (fun i => (i.zero, i.size, i.bytes)) = some (some (.agg #[.int .i64 0, .slice none 0 0]), 2, 32) := by kernel_rfl
theorem ty_made_e {r i base : Nat} {lo : Nat} {kd : Int} {acc : List Ty} {vs : Value} {cs : List Value} {S : Nat → Prop} {wr wF : World} {te : TypeId} (hcs : wr.ownsRow base te 2 vs i cs) (hlen : acc.length = i)
    (hargs : ∀ (j : Nat) (a : Ty), acc[j]? = some a → ∃ u0 u1, cs[j * 2]? = some u0 ∧ cs[j * 2 + 1]? = some u1 ∧ TyAt wr S r (.agg #[u0, u1]) a) (hS : ∀ b, S b → base ≤ b)
    (hlo : lo ≤ base) (hk : ∀ b, base ≤ b → b < wr.heap.size → wF.heap[b]? = wr.heap[b]?) : TyAt wF (fun b => lo ≤ b) (r + 1) (.agg #[.int .i64 kd, vs]) (.mk kd acc) := by
  have hkc : ∀ b, base ≤ b → b < wr.heap.size → ∀ o, wF.cell? ⟨b, o, none⟩ = wr.cell? ⟨b, o, none⟩ := fun b hb hl o => World.cell?_of_block (hk b hb hl)
  rcases hcs.2 with ⟨rfl, h0⟩ | ⟨g, cap, cur, rfl, hbg, hg, hnc, _⟩
  · have ha : acc.length = 0 := by omega
    refine ⟨none, 0, ?_, by show acc.length ≤ 0; omega, fun hl => ?_⟩
    · show _ = Value.agg #[.int .i64 kd, .slice none acc.length 0]
      rw [ha]
    · have hl' : 0 < acc.length := hl
      omega
  · have hgl := cell_lt hg
    refine ⟨some ⟨g, 0, none⟩, cap, ?_, by show acc.length ≤ cap; omega, fun hl => ⟨g, 0, rfl, by omega, fun j a ha => ?_⟩⟩
    · show _ = Value.agg #[.int .i64 kd, .slice (some ⟨g, 0, none⟩) acc.length cap]
      rw [hlen]
    · have ha' : acc[j]? = some a := ha
      obtain ⟨u0, u1, h0, h1, h2⟩ := hargs j a ha'
      have hjl := (List.getElem?_eq_some_iff.1 ha').1
      refine ⟨u0, u1, ?_, ?_, TyAt.move (fun b hSb hbl => ⟨by have := hS b hSb; omega, hkc b (hS b hSb) hbl⟩) _ _ _ h2⟩
      · rw [Nat.zero_add, hkc g hbg hgl, hcs.cellAt _ (by omega)]; exact h0
      · rw [Nat.zero_add, hkc g hbg hgl, hcs.cellAt _ (by omega)]; exact h1
structure OfInv (w : World) (v0 : Value) (t : Ty) (kd : Int) (d j : Nat) (vs : Value) (cs : List Value) (wr : World) : Prop where
  below : Below w.heap.size w wr
  size : w.heap.size + 2 ≤ wr.heap.size
  box : wr.heap[w.heap.size]? = some (.cells #[.int .i64 kd, v0] 64 (0, 0))
  res : wr.heap[w.heap.size + 1]? = some (.cells #[.int .i64 0, .slice none 0 0] 45 (0, 0))
  own : wr.ownsRow (w.heap.size + 2) 45 2 vs j cs
  args : ∀ (i : Nat) (a : Ty), i < j → t.args[i]? = some a → ∃ u0 u1, cs[i * 2]? = some u0 ∧ cs[i * 2 + 1]? = some u1 ∧ TyAt wr (fun b => w.heap.size + 2 ≤ b ∧ some b ≠ vs.ownBlock) d (.agg #[u0, u1]) a
theorem OfInv.next {w wr w3 w7 : World} {v0 vs v' u0 u1 : Value} {t a : Ty} {kd : Int} {d j : Nat} {cs : List Value} {o1 o2 : Obj} (h : OfInv w v0 t kd d j vs cs wr) (hb : Below (wr.alloc o1).heap.size (wr.alloc o1) w3) (hT : TyAt w3 (fun b => (wr.alloc o1).heap.size ≤ b) d (.agg #[u0, u1]) a) (ha : t.args[j]? = some a)
    (hg : (w3.alloc o2).grownBy w7 vs.ownBlock) (hown7 : w7.ownsRow (w.heap.size + 2) 45 2 v' (j + 1) (cs ++ [u0, u1])) (hat : v'.ownBlock = vs.ownBlock ∨ v'.ownBlock = some (w3.alloc o2).heap.size) :
    OfInv w v0 t kd d (j + 1) v' (cs ++ [u0, u1]) w7 := by
  have hs := h.size
  have hs3 := hb.size
  have e1 : (wr.alloc o1).heap.size = wr.heap.size + 1 := by simp
  have e3 : (w3.alloc o2).heap.size = w3.heap.size + 1 := by simp
  have hs7 := hg.size
  have hvs : ∀ b, vs.ownBlock = some b → w.heap.size + 2 ≤ b ∧ b < wr.heap.size := h.own.lt
  have step3 : ∀ b, b < w3.heap.size → some b ≠ vs.ownBlock → w7.heap[b]? = w3.heap[b]? := fun b hl hne => by
    rw [hg.block b (by omega) hne, Below.heap_alloc _ _ _ hl]
  have stepr : ∀ b, b < wr.heap.size → some b ≠ vs.ownBlock → w7.heap[b]? = wr.heap[b]? := fun b hl hne => by
    rw [step3 b (by omega) hne, hb.block b (by omega), Below.heap_alloc _ _ _ hl]
  have ne1 : ∀ b, b < w.heap.size + 2 → some b ≠ vs.ownBlock := fun b hl e => by have := (hvs b e.symm).1; omega
  have hbw : Below w.heap.size w w7 := ((h.below.alloc (by omega) o1).trans (hb.mono (by omega))).alloc (by omega) o2 |>.grown hg (by omega) (fun k hk => by have := (hvs k hk).1; omega)
  refine ⟨hbw, by omega, ?_, ?_, hown7, fun i b hi hib => ?_⟩
  · rw [stepr _ (by omega) (ne1 _ (by omega))]; exact h.box
  · rw [stepr _ (by omega) (ne1 _ (by omega))]; exact h.res
  · have hcl : cs.length = j * 2 := h.own.1
    rcases Nat.lt_or_ge i j with hlt | hge
    · obtain ⟨x0, x1, h0, h1, h2⟩ := h.args i b hlt hib
      refine ⟨x0, x1, by rw [List.getElem?_append_left (by omega)]; exact h0, by rw [List.getElem?_append_left (by omega)]; exact h1, h2.move fun k hk hl => ⟨⟨hk.1, fun e => ?_⟩, fun _ => World.cell?_of_block (stepr k hl hk.2)⟩⟩
      rcases hat with hh | hh
      · exact hk.2 (e.trans hh)
      · rw [hh, e3] at e; injection e; omega
    · obtain rfl : i = j := by omega
      rw [ha] at hib
      injection hib with hib
      subst hib
      have nev : ∀ k, wr.heap.size + 1 ≤ k → some k ≠ vs.ownBlock := fun k hk e => by have := (hvs k e.symm).2; omega
      refine ⟨u0, u1, by rw [List.getElem?_append_right (by omega)]; simp [show i * 2 - cs.length = 0 by omega], by rw [List.getElem?_append_right (by omega)]; simp [show i * 2 + 1 - cs.length = 1 by omega], hT.move fun k hk hl => ⟨⟨by omega, fun e => ?_⟩, fun _ => World.cell?_of_block (step3 k hl (nev k (by omega)))⟩⟩
      rcases hat with hh | hh
      · rw [hh] at e; exact nev k (by omega) e
      · rw [hh, e3] at e; injection e; omega
theorem ty_ext {a b : Ty} (h : a.kind = b.kind) (g : a.args = b.args) : a = b := by
  cases a; cases b
  simp only [Ty.kind, Ty.args] at h g
  subst h; subst g; rfl
set_option maxRecDepth 100000 in
set_option maxHeartbeats 1000000 in
theorem tsame_any : ∀ (d d' n : Nat) (S S' : Nat → Prop) (v v' : Value) (a b : Ty) (w : World), Nar n a → TyAt w S d v a → TyAt w S' d' v' b →
    Calls Tryz.prog 52 #[v, v'] w fun e w' => (∃ q : Bool, e = .returned (.bool q) ∧ (q = true ↔ a = b)) ∧ Below w.heap.size w w'
  | 0, d', n, S, S', v, v', a, b, w, _, hT, _ => hT.elim
  | d + 1, 0, n, S, S', v, v', a, b, w, _, _, hT' => hT'.elim
  | d + 1, d' + 1, 0, S, S', v, v', a, b, w, hN, _, _ => hN.elim
  | d + 1, d' + 1, n + 1, S, S', v, v', a, b, w, hN, hT, hT' => by
    obtain ⟨hlen, hall⟩ := hN
    have IH := tsame_any d d' n
    have HIH := Lib.hid IH
    have HALL := Lib.hid hall
    obtain ⟨A, c, rfl, hlc, hA⟩ := hT
    obtain ⟨A', c', rfl, hlc', hA'⟩ := hT'
    have HA := Lib.hid hA
    have HA' := Lib.hid hA'
    have hb2 := ((Below.refl w.heap.size w).alloc (Nat.le_refl _) (.cells #[.int .i64 a.kind, .slice A a.args.length c] 45)).alloc (by simp) (.cells #[.int .i64 b.kind, .slice A' b.args.length c'] 45)
    have hx0 := (Below.heap_alloc (w.alloc (.cells #[.int .i64 a.kind, .slice A a.args.length c] 45)) (.cells #[.int .i64 b.kind, .slice A' b.args.length c'] 45) w.heap.size (by simp)).trans (heap_alloc_new w _)
    have hx1 : ((w.alloc (.cells #[.int .i64 a.kind, .slice A a.args.length c] 45)).alloc (.cells #[.int .i64 b.kind, .slice A' b.args.length c'] 45)).heap[w.heap.size + 1]? = some (.cells #[.int .i64 b.kind, .slice A' b.args.length c'] 45 (0, 0)) := by simpa using heap_alloc_new (w.alloc (.cells #[.int .i64 a.kind, .slice A a.args.length c] 45)) (.cells #[.int .i64 b.kind, .slice A' b.args.length c'] 45)
    have hz2 : w.heap.size + 2 ≤ ((w.alloc (.cells #[.int .i64 a.kind, .slice A a.args.length c] 45)).alloc (.cells #[.int .i64 b.kind, .slice A' b.args.length c'] 45)).heap.size := by simp
    clear hA hA' IH hall
    by_cases hk : a.kind = b.kind
    · by_cases hl : a.args.length = b.args.length
      · have hkb : (a.kind != b.kind) = false := by simp [hk]
        have hlb : ((a.args.length : Int) != (b.args.length : Int)) = false := by simp [hl]
        have HF : Hid (a.args = b.args → a = b) := ty_ext hk
        have HL := Lib.hid hl
        clear hk hl
        go_enter Tryz.func52, Tryz.ntmps52
        go_wp2_with (fail)
        go_loopw [5] (fun i wr => ∃ j : Nat, i = .int .i64 j ∧ j ≤ a.args.length ∧ Hid (a.args.take j = b.args.take j) ∧ Below w.heap.size w wr ∧ w.heap.size + 2 ≤ wr.heap.size ∧ wr.heap[w.heap.size]? = some (.cells #[.int .i64 a.kind, .slice A a.args.length c] 45 (0, 0)) ∧ wr.heap[w.heap.size + 1]? = some (.cells #[.int .i64 b.kind, .slice A' b.args.length c'] 45 (0, 0))) (fun i _ => 6000 - (intOf i).toNat)
        case atStart => exact ⟨0, rfl, by omega, rfl, hb2, hz2, hx0, hx1⟩
        case round =>
          obtain ⟨j, rfl, hj, HE, hbr, hsz, hy0, hy1⟩ := hrel
          have c0 := cell2_0 hy0
          have c1 := cell2_1 hy0
          have d0 := cell2_0 hy1
          have d1 := cell2_1 hy1
          by_cases hlt : j < a.args.length
          · have hltm : j < b.args.length := by have := HL.out; omega
            obtain ⟨b1, o, rfl, hSb, hcells⟩ := HA.out (by omega)
            obtain ⟨b2, o', rfl, hSb', hcells'⟩ := HA'.out (by omega)
            obtain ⟨B1, k1, h0, h1, h2, hbl⟩ := arg_cells hcells hlt
            obtain ⟨B2, k2, h0', h1', h2', hbl'⟩ := arg_cells hcells' hltm
            have g0 := (hbr.cell (p := ⟨b1, o + j * 2, none⟩) hbl).trans h0
            have g1 := (hbr.cell (p := ⟨b1, o + j * 2 + 1, none⟩) hbl).trans h1
            have g0' := (hbr.cell (p := ⟨b2, o' + j * 2, none⟩) hbl').trans h0'
            have g1' := (hbr.cell (p := ⟨b2, o' + j * 2 + 1, none⟩) hbl').trans h1'
            have hna := HALL.out _ (List.getElem_mem hlt)
            have hd : a.args[j]? = some a.args[j] := List.getElem?_eq_getElem hlt
            have hd' : b.args[j]? = some b.args[j] := List.getElem?_eq_getElem hltm
            generalize a.args[j] = x at *
            generalize b.args[j] = y at *
            have HD := Lib.hid hd
            have HD' := Lib.hid hd'
            have H2 := Lib.hid (h2.below hbr)
            have H2' := Lib.hid (h2'.below hbr)
            have HNA := Lib.hid hna
            clear h0 h1 h2 h0' h1' h2' hd hd' hna hcells hcells'
            go_wp2_with (fail)
            refine wp_region_still_tail 10 (by kernel_rfl) (by kernel_rfl) ?_
            simp only [List.take_succ_cons, List.take_zero, List.drop_succ_cons, List.drop_zero]
            change wpStill _ _ (World.drew _) _ _ _
            repeat still_step
            refine wpStill_nil ?_
            change wpList _ _ _ _ _ (World.drew _)
            go_wp2_with (fail)
            refine (HIH.out S S' _ _ x y (wr.drew) HNA.out (H2.out.below (Below.refl wr.heap.size wr).drew) (H2'.out.below (Below.refl wr.heap.size wr).drew)).mono ?_
            rintro e w3 ⟨⟨q, rfl, hq⟩, hb3⟩
            have HQ := Lib.hid hq
            clear hq
            have hb3' : Below wr.heap.size wr w3 := (Below.refl wr.heap.size wr).drew.trans hb3
            have hb4 := hbr.trans (hb3'.mono hbr.size)
            have hs3 := hb3'.size
            have hy0' := (hb3'.block w.heap.size (by omega)).trans hy0
            have hy1' := (hb3'.block (w.heap.size + 1) (by omega)).trans hy1
            cases q with
            | false =>
              go_wp2
              go_ret
              exact ⟨⟨false, rfl, by simp; exact fun e => absurd (HQ.out.2 (by have h := HD.out; rw [e, HD'.out] at h; injection h with h; exact h.symm)) (by simp)⟩, hb4⟩
            | true =>
              have HF2 : Hid (a.args.take (j + 1) = b.args.take (j + 1)) := by show _ = _; rw [List.take_add_one, List.take_add_one, HE.out, HD.out, HD'.out, HQ.out.1 rfl]
              go_wp2
              go_roundw
              case rel => exact ⟨j + 1, by go_num, by omega, HF2, hb4, by omega, hy0', hy1'⟩
              case measure => simp [intOf]; omega
          · have HF2 : Hid (a.args = b.args) := by
              have h := HE.out
              rwa [List.take_of_length_le (by omega), List.take_of_length_le (by have := HL.out; omega)] at h
            go_wp2
            go_ret
            exact ⟨⟨true, rfl, fun _ => HF.out HF2.out, fun _ => rfl⟩, hbr⟩
      · have hkb : (a.kind != b.kind) = false := by simp [hk]
        have hlb : ((a.args.length : Int) != (b.args.length : Int)) = true := by simp; omega
        have HF : Hid (a ≠ b) := fun e => hl (by rw [e])
        clear hk hl
        go_enter Tryz.func52, Tryz.ntmps52
        go_wp2_with (fail)
        go_ret
        exact ⟨⟨false, rfl, by simp; exact HF.out⟩, hb2⟩
    · have hkb : (a.kind != b.kind) = true := by simp [hk]
      have HF : Hid (a ≠ b) := fun e => hk (by rw [e])
      clear hk
      go_enter Tryz.func52, Tryz.ntmps52
      go_wp2_with (fail)
      go_ret
      exact ⟨⟨false, rfl, by simp; exact HF.out⟩, hb2⟩
end Go.Proofs.YtllnamhgnbdkmaaGreatDoor
