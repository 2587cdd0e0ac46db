import Derived.Test.YtaecndmncpfpfaaGreatDoorEt
import Derived.Test.YtaecndmncpfpfaaGreatDoorEn
import Derived.Test.YtaecndmncpfpfaaGreatDoorDd
import Derived.Deep.AppendLies
set_option linter.unusedVariables false
set_option linter.unusedSimpArgs false
namespace Go.Proofs.YtaecndmncpfpfaaGreatDoor.L5
open Go.RowKit
def SmE (it : Ty) (sides : List Ty) : Prop := Nar 30 it ∧ sides.length ≤ 5000 ∧ ∀ t ∈ sides, Nar 30 t
set_option maxRecDepth 100000 in
set_option maxHeartbeats 4000000 in
theorem small_any (d de : Nat) (v : Value) (n : Nd) (it : Ty) (sides : List Ty) (A SA : Option Addr) (k sk : Nat) (w : World) (hN : NdAt w (fun k => k < w.heap.size) d v n) (hT : TyAt w (fun k => k < w.heap.size) de (.agg #[.int .i64 it.kind, .slice A it.args.length k]) it)
    (hA : Knd.yE w (fun k => k < w.heap.size) de SA sides) :
    Calls Tryz.prog 9 #[v, .agg #[.int .i64 it.kind, .slice A it.args.length k, .slice SA sides.length sk]] w fun e w' => (∃ b, e = .returned (.bool b) ∧ (b = true → FewN 60 n ∧ SmE it sides)) ∧ Below w.heap.size w w' := by
 obtain ⟨NA, nc, NK, nk, rfl⟩ := hN.form
 have HN := Lib.hid hN
 have HT := Lib.hid hT
 have HA := Lib.hid hA
 clear hN hT hA
 obtain ⟨W0, hW0⟩ : ∃ W0, ((w.alloc (.cells #[.string ⟨n.op.toArray⟩, .int .i64 n.int, .string ⟨n.text.toArray⟩, .int .i64 n.ty.kind, .slice NA n.ty.args.length nc, .slice NK n.kids.length nk] 27)).alloc (.cells #[.int .i64 it.kind, .slice A it.args.length k, .slice SA sides.length sk] 29)).alloc (.cells #[.int .i64 5000] 3) = W0 := ⟨_, rfl⟩
 have hB0 : Below w.heap.size w W0 := by
  rw [← hW0]
  repeat' (first | exact Below.refl _ _ | refine Below.alloc ?_ ?_ _ | (simp; done) | (simp; omega))
 have hs0 : W0.heap.size = w.heap.size + 3 := by rw [← hW0]; simp
 have b0 : W0.heap[w.heap.size]? = some (.cells #[.string ⟨n.op.toArray⟩, .int .i64 n.int, .string ⟨n.text.toArray⟩, .int .i64 n.ty.kind, .slice NA n.ty.args.length nc, .slice NK n.kids.length nk] 27 (0, 0)) := by
  rw [← hW0]
  exact zE (zE (heap_alloc_new w _))
 have b1 : W0.heap[w.heap.size + 1]? = some (.cells #[.int .i64 it.kind, .slice A it.args.length k, .slice SA sides.length sk] 29 (0, 0)) := by
  rw [← hW0]
  refine zE ?_
  simpa using heap_alloc_new (w.alloc (.cells #[.string ⟨n.op.toArray⟩, .int .i64 n.int, .string ⟨n.text.toArray⟩, .int .i64 n.ty.kind, .slice NA n.ty.args.length nc, .slice NK n.kids.length nk] 27)) (.cells #[.int .i64 it.kind, .slice A it.args.length k, .slice SA sides.length sk] 29)
 have bL : W0.heap[w.heap.size + 1 + 1]? = some (.cells #[.int .i64 5000] 3 (0, 0)) := by
  rw [← hW0]
  simpa using heap_alloc_new ((w.alloc (.cells #[.string ⟨n.op.toArray⟩, .int .i64 n.int, .string ⟨n.text.toArray⟩, .int .i64 n.ty.kind, .slice NA n.ty.args.length nc, .slice NK n.kids.length nk] 27)).alloc (.cells #[.int .i64 it.kind, .slice A it.args.length k, .slice SA sides.length sk] 29)) (.cells #[.int .i64 5000] 3)
 have HW0 := Lib.hid hW0
 clear hW0
 go_enter Tryz.func9, Tryz.ntmps9
 go_upto_region 2 with (fail)
 rw [HW0.out]
 clear HW0
 have HFW := Lib.hid (few_any 60 d (fun k => k < w.heap.size) (w.heap.size + 1 + 1) _ n 5000 W0 (by omega) (NdAt.move (fun b hb _ => ⟨hb, fun _ => World.cell?_of_block (hB0.block b hb)⟩) d _ _ HN.out) (fun b hb => by omega) bL (by omega) (by omega))
 have n0 := zD (i := 0) b0 rfl
 have n1 := zD (i := 1) b0 rfl
 have n2 := zD (i := 2) b0 rfl
 have n3 := zD (i := 3) b0 rfl
 have n4 := zD (i := 4) b0 rfl
 have n5 := zD (i := 5) b0 rfl
 have l0 := zC b0
 have HB0 := Lib.hid hB0
 have HB1 := Lib.hid b1
 have HS0 := Lib.hid hs0
 clear b0 b1 bL hB0 hs0
 have HFL : Hid (∀ (w1 : World) (l1 : Int), Only (w.heap.size + 1 + 1) W0 w1 → w1.heap[w.heap.size + 1 + 1]? = some (.cells #[.int .i64 l1] 3 (0, 0)) → 0 ≤ l1 → l1 ≤ 5000 →
     Calls Tryz.prog 21 #[.agg #[.int .i64 it.kind, .slice A it.args.length k], .pointer (some ⟨w.heap.size + 1 + 1, 0, none⟩), .int .i64 ((30 : Nat) : Int)] w1 fun e w' => SmOut 30 it l1 (w.heap.size + 1 + 1) e w' ∧ Only (w.heap.size + 1 + 1) w1 w') := fun w1 l1 ho hL h0 h5 =>
  flat_any 30 de (fun k => k < w.heap.size) (w.heap.size + 1 + 1) _ it l1 w1 (by omega) ((HT.out.move fun b hb _ => ⟨hb, fun _ => World.cell?_of_block (HB0.out.block b hb)⟩).only (fun b hb => by omega) ho) (fun b hb => by omega) hL h0 h5
 have HBX : Hid (∀ w1, Only (w.heap.size + 1 + 1) W0 w1 → w1.heap[w.heap.size + 1]? = some (.cells #[.int .i64 it.kind, .slice A it.args.length k, .slice SA sides.length sk] 29 (0, 0))) := fun w1 ho => (ho.block (w.heap.size + 1) (zC HB1.out) (by simp)).trans HB1.out
 go_wp2_with (first
  | (go_at_call 30; (refine HFW.out.mono ?_); rintro e w1 ⟨⟨bb, l1, rfl, hl1, hl2, hl3, hl4⟩, ho1⟩; have m0 := cell3_0 (HBX.out w1 ho1); have m1 := yF (HBX.out w1 ho1); have m2 := cell3_2 (HBX.out w1 ho1); have lm := zC (HBX.out w1 ho1); have HO1 := Lib.hid ho1; clear ho1 n0 n1 n2 n3 n4; cases bb)
  | (go_at_call 21; obtain ⟨h24, h25⟩ : 0 ≤ l1 ∧ FewN 60 n := hl4 trivial; refine (HFL.out w1 l1 HO1.out hl1 h24 (by omega)).mono ?_; rintro e w2 ⟨⟨b2, l2, rfl, hr1, hr2, hr3, hr4⟩, ho2⟩; clear hl4; have HO2 := Lib.hid (HO1.out.trans ho2); have HFN := Lib.hid h25; have p0 := cell3_0 (HBX.out w2 HO2.out); have p1 := yF (HBX.out w2 HO2.out); have p2 := cell3_2 (HBX.out w2 HO2.out); clear ho2 h25 m0 m1 m2 hl1; cases b2)
  | (fail))
 · go_ret
   exact ⟨⟨false, rfl, by simp⟩, HB0.out.trans (HO1.out.below (by omega) (by have := HS0.out; omega))⟩
 · go_ret
   exact ⟨⟨false, rfl, by simp⟩, HB0.out.trans (HO2.out.below (by omega) (by have := HS0.out; omega))⟩
 · obtain ⟨h24, h25⟩ : 0 ≤ l2 ∧ Nar 30 it := (by first | exact hr4 trivial | exact hr4 rfl)
   have HIT := Lib.hid h25
   have HA' := HA
   clear hr4 h25
   have hr1' := hr1
   go_loopw [20] (fun i wr => ∃ (j : Nat) (l' : Int), i = .int .i64 j ∧ j ≤ sides.length ∧ wr.heap[w.heap.size + 1 + 1]? = some (.cells #[.int .i64 l'] 3 (0, 0)) ∧ 0 ≤ l' ∧ l' + j ≤ 5000 ∧ Hid (Only (w.heap.size + 1 + 1) W0 wr) ∧ Hid (∀ a ∈ sides.take j, Nar 30 a)) (fun i _ => 6000 - (intOf i).toNat)
   case atStart => exact ⟨0, l2, rfl, by omega, hr1, h24, by omega, HO2, fun a ha => by simp at ha⟩
   case round =>
    obtain ⟨j, l', rfl, hj, hLr, hl'0, hl'j, HOR, HN'⟩ := hrel
    by_cases hlt : j < sides.length
    · obtain ⟨b, o, rfl, hSb, hcells⟩ := HA.out (by omega)
      obtain ⟨B1, k1, h0, h1, h2, hbl⟩ := arg_cells hcells hlt
      have hbk : wr.heap[b]? = w.heap[b]? := (HOR.out.block b (by have := HS0.out; omega) (by simp; omega)).trans (HB0.out.block b hbl)
      have k0 := (World.cell?_of_block (a := ⟨b, o + j * 2, none⟩) hbk).trans h0
      have k1' := (World.cell?_of_block (a := ⟨b, o + j * 2 + 1, none⟩) hbk).trans h1
      have HTS : Hid (sides.take (j + 1) = sides.take j ++ [sides[j]]) := by show _ = _; rw [List.take_add_one, List.getElem?_eq_getElem hlt]; rfl
      generalize sides[j] = a at *
      have H2 := Lib.hid ((h2.move fun b hb _ => ⟨hb, fun _ => World.cell?_of_block (HB0.out.block b hb)⟩).only (S := fun k => k < w.heap.size) (L := w.heap.size + 1 + 1) (fun b hb => by omega) HOR.out)
      clear h0 h1 h2 hcells hbk
      go_wp2_with (fail)
      refine (flat_any 30 de (fun k => k < w.heap.size) (w.heap.size + 1 + 1) _ a l' _ (by omega) (H2.out.below ((Below.refl _ wr).alloc (Nat.le_refl _) _)) (fun b hb => by omega) ((Below.heap_alloc wr _ _ (zC hLr)).trans hLr) hl'0 (by omega)).mono ?_
      rintro e w3 ⟨⟨bb, l3, rfl, hL3, h21, h22, h23⟩, ho3⟩
      have HO3 := Lib.hid ((yJ HOR.out _).trans ho3)
      clear ho3
      cases bb with
      | false =>
        go_wp2_with (fail)
        go_ret
        exact ⟨⟨false, rfl, by simp⟩, HB0.out.trans (HO3.out.below (by omega) (by have := HS0.out; omega))⟩
      | true =>
        obtain ⟨h24, h25⟩ := h23 rfl
        have H25 := Lib.hid h25
        clear h23 h25
        go_wp2_with (fail)
        go_roundw
        case rel => exact ⟨j + 1, l3, by go_num, by omega, hL3, h24, by omega, HO3, by
         show ∀ x ∈ sides.take (j + 1), Nar 30 x
         rw [HTS.out]
         intro x hx
         rcases List.mem_append.1 hx with hx | hx
         · exact HN'.out x hx
         · simp at hx; subst hx; exact H25.out⟩
        case measure => simp [intOf]; omega
    · obtain rfl : j = sides.length := by omega
      have hN : ∀ a ∈ sides, Nar 30 a := by have := HN'.out; rwa [List.take_length] at this
      have HNN := Lib.hid hN
      clear hN
      go_wp2_with (fail)
      go_ret
      exact ⟨⟨true, rfl, fun _ => ⟨HFN.out, HIT.out, by omega, HNN.out⟩⟩, HB0.out.trans (HOR.out.below (by omega) (by have := HS0.out; omega))⟩
end Go.Proofs.YtaecndmncpfpfaaGreatDoor.L5
set_option linter.unusedVariables false
set_option linter.unusedSimpArgs false
namespace Go.Proofs.YtaecndmncpfpfaaGreatDoor.L5
open Go.RowKit
structure EnI (w1 : World) (P : Nat → Prop) (G : Nat) (x0 x1 : Value) (F : Ty → Ty) (sides : List Ty) (d j : Nat) (A : Option Addr) (c : Nat) (cs : List Value) (wr : World) : Prop where
 below : Below G w1 wr
 base : w1.heap.size = G
 low : ∀ k, P k → k < G
 box : wr.heap[G]? = some (.cells #[x0, x1, .slice A j c] 44 (0, 0))
 own : wr.ownsRow (G + 1) 34 2 (.slice A j c) j cs
 args : ∀ (i : Nat) (a : Ty), i < j → sides[i]? = some a → ∃ u0 u1, cs[i * 2]? = some u0 ∧ cs[i * 2 + 1]? = some u1 ∧ TyAt wr (fun b => (P b ∨ G < b) ∧ some b ≠ (Value.slice A j c).ownBlock) d (.agg #[u0, u1]) (F a)
theorem EnI.next {w1 wr w3 w7 : World} {P : Nat → Prop} {G g cap : Nat} {x0 x1 : Value} {F : Ty → Ty} {sides : List Ty} {a : Ty} {d j c : Nat} {A : Option Addr} {u0 u1 : Value} {cs : List Value} {o1 o2 : Obj} (h : EnI w1 P G x0 x1 F sides d j A c cs wr)
    (hb : Below (wr.alloc o1).heap.size (wr.alloc o1) w3) (hT : TyAt w3 (fun b => P b ∨ (wr.alloc o1).heap.size ≤ b) d (.agg #[u0, u1]) (F a)) (ha : sides[j]? = some a)
    (hg : (w3.alloc o2).grownBy w7 (Value.slice A j c).ownBlock) (hown7 : w7.ownsRow (G + 1) 34 2 (.slice (some ⟨g, 0, none⟩) (j + 1) cap) (j + 1) (cs ++ [u0, u1])) (hat : (Value.slice A j c).ownBlock = some g ∨ g = (w3.alloc o2).heap.size) :
    EnI w1 P G x0 x1 F sides d (j + 1) (some ⟨g, 0, none⟩) cap (cs ++ [u0, u1]) (w7.setCell ⟨G, 2, none⟩ (.slice (some ⟨g, 0, none⟩) (j + 1) cap)) := by
 have hlow := h.low
 have hGr := zC h.box
 have hs3 := hb.size
 have e1 : (wr.alloc o1).heap.size = wr.heap.size + 1 := by simp
 have e3 : (w3.alloc o2).heap.size = w3.heap.size + 1 := by simp
 have hs7 := hg.size
 have hgG : G + 1 ≤ g := (hown7.lt g rfl).1
 have hvs : ∀ b, (Value.slice A j c).ownBlock = some b → G + 1 ≤ b ∧ b < wr.heap.size := h.own.lt
 have setG : ∀ b, b ≠ G → (w7.setCell ⟨G, 2, none⟩ (.slice (some ⟨g, 0, none⟩) (j + 1) cap)).heap[b]? = w7.heap[b]? := fun b hb => Below.heap_setCell _ _ _ _ (by show b ≠ G; exact hb)
 have step3 : ∀ b, b < w3.heap.size → some b ≠ (Value.slice A j c).ownBlock → w7.heap[b]? = w3.heap[b]? := fun b hl hne => by
  rw [hg.block b (by omega) hne, Below.heap_alloc _ _ _ hl]
 have stepr : ∀ b, b < wr.heap.size → some b ≠ (Value.slice A j c).ownBlock → w7.heap[b]? = wr.heap[b]? := fun b hl hne => by
  rw [step3 b (by omega) hne, hb.block b (by omega), Below.heap_alloc _ _ _ hl]
 have ne1 : ∀ b, b ≤ G → some b ≠ (Value.slice A j c).ownBlock := fun b hl e => by have := (hvs b e.symm).1; omega
 have hkp := hown7.kept (row := some G) (Only.set_ G 2 _ (.slice (some ⟨g, 0, none⟩) (j + 1) cap)) (.inr (fun e => by have e2 : g = G := (by simpa [Value.ownBlock] using e); omega))
 refine ⟨?_, h.base, hlow, ?_, hkp, fun i b hi hib => ?_⟩
 · have hbr : Below G w1 w3 := (h.below.alloc (by omega) o1).trans (hb.mono (by omega))
   have hb7 : Below G w1 w7 := (hbr.alloc (by omega) o2).grown hg (by omega) (fun k hk => by have := (hvs k hk).1; omega)
   exact hb7.setCell (p := ⟨G, 2, none⟩) (Nat.le_refl _) _
 · have h7 : w7.heap[G]? = some (.cells #[x0, x1, .slice A j c] 44 (0, 0)) := by rw [stepr G hGr (ne1 G (Nat.le_refl _))]; exact h.box
   simp [World.setCell, Array.getElem?_modify, h7]
 · have hcl : cs.length = j * 2 := h.own.1
   rcases Nat.lt_or_ge i j with hlt | hge
   · obtain ⟨z0, z1, h0, h1, h2⟩ := h.args i b hlt hib
     refine ⟨z0, z1, by rw [List.getElem?_append_left (by omega)]; exact h0, by rw [List.getElem?_append_left (by omega)]; exact h1, h2.move fun k hk hl => ⟨⟨hk.1, fun e => ?_⟩, fun _ => World.cell?_of_block ((setG k (hk.1.elim (fun h => Nat.ne_of_lt (hlow k h)) (fun h => by omega))).trans (stepr k hl hk.2))⟩⟩
     have e' : k = g := by injection e
     rcases hat with hh | hh
     · exact hk.2 (by rw [hh, e'])
     · omega
   · obtain rfl : i = j := by omega
     rw [ha] at hib
     injection hib with hib
     subst hib
     have nev : ∀ k, wr.heap.size + 1 ≤ k → some k ≠ (Value.slice A i c).ownBlock := fun k hk e => by have := (hvs k e.symm).2; omega
     have nev2 : ∀ k, (P k ∨ (wr.alloc o1).heap.size ≤ k) → some k ≠ (Value.slice A i c).ownBlock := fun k hk => by
      rcases hk with h | h
      · exact ne1 k (Nat.le_of_lt (hlow k h))
      · exact nev k (by omega)
     refine ⟨u0, u1, by rw [List.getElem?_append_right (by omega)]; simp [show i * 2 - cs.length = 0 by omega], by rw [List.getElem?_append_right (by omega)]; simp [show i * 2 + 1 - cs.length = 1 by omega], hT.move fun k hk hl => ⟨⟨hk.elim .inl (fun h => .inr (by omega)), fun e => ?_⟩, fun _ => World.cell?_of_block ((setG k (hk.elim (fun h => Nat.ne_of_lt (hlow k h)) (fun h => by omega))).trans (step3 k hl (nev2 k hk)))⟩⟩
     have e' : k = g := by injection e
     rcases hat with hh | hh
     · exact nev2 k hk (by rw [hh, e'])
     · omega
def EvOut (w w' : World) (e : Ending) (it : Ty) (sides : List Ty) : Prop :=
 ∃ A k SA sk D, e = .returned (.agg #[.int .i64 it.kind, .slice A it.args.length k, .slice SA sides.length sk]) ∧ TyAt w' (fun b => w.heap.size ≤ b) D (.agg #[.int .i64 it.kind, .slice A it.args.length k]) it ∧ Knd.yE w' (fun b => w.heap.size ≤ b) D SA sides
theorem own_low {w : World} {B C : Nat} {e : TypeId} {size n : Nat} {v : Value} {xs : List Value} (h : w.ownsRow B e size v n xs) (hC : C ≤ B) : w.ownsRow C e size v n xs := by
 obtain ⟨h1, h2⟩ := h
 refine ⟨h1, ?_⟩
 rcases h2 with h | ⟨g, cap, cur, hv, hb, rest⟩
 · exact .inl h
 · exact .inr ⟨g, cap, cur, hv, by omega, rest⟩
def EvOwn (w w' : World) (e : Ending) (it : Ty) (sides : List Ty) : Prop :=
 ∃ A k SA sk cs D, e = .returned (.agg #[.int .i64 it.kind, .slice A it.args.length k, .slice SA sides.length sk]) ∧ TyAt w' (fun b => w.heap.size ≤ b ∧ some b ≠ (Value.slice SA sides.length sk).ownBlock) D (.agg #[.int .i64 it.kind, .slice A it.args.length k]) it ∧ w'.ownsRow w.heap.size 34 2 (.slice SA sides.length sk) sides.length cs ∧
  ∀ (i : Nat) (a : Ty), sides[i]? = some a → ∃ u0 u1, cs[i * 2]? = some u0 ∧ cs[i * 2 + 1]? = some u1 ∧ TyAt w' (fun b => w.heap.size ≤ b ∧ some b ≠ (Value.slice SA sides.length sk).ownBlock) D (.agg #[u0, u1]) a
set_option maxRecDepth 100000 in
set_option maxHeartbeats 4000000 in
theorem env_own (d : Nat) (it : Ty) (sides : List Ty) (A SA : Option Addr) (k sk : Nat) (w : World) (hT : TyAt w (fun k => k < w.heap.size) d (.agg #[.int .i64 it.kind, .slice A it.args.length k]) it)
    (hA : Knd.yE w (fun k => k < w.heap.size) d SA sides) (hS : SmE it sides) :
    Calls Tryz.prog 13 #[.agg #[.int .i64 it.kind, .slice A it.args.length k, .slice SA sides.length sk]] w fun e w' => EvOwn w w' e it sides ∧ Below w.heap.size w w' := by
 obtain ⟨i0, hi, hq0, hq1, hq2⟩ := info_parts Tryz.infoTy
 have HA := Lib.hid hA
 have HSM := Lib.hid hS
 have hlen := hS.2.1
 obtain ⟨W0, hW0⟩ : ∃ W0, ((w.alloc (.cells #[.int .i64 it.kind, .slice A it.args.length k, .slice SA sides.length sk] 29)).alloc (.cells #[.int .i64 0, .slice none 0 0, .slice none 0 0] 44)) = W0 := ⟨_, rfl⟩
 have hB0 : Below w.heap.size w W0 := by
  rw [← hW0]
  exact ((Below.refl _ w).alloc (Nat.le_refl _) _).alloc (by simp) _
 have hs0 : W0.heap.size = w.heap.size + 2 := by rw [← hW0]; simp
 have b0 : W0.heap[w.heap.size]? = some (.cells #[.int .i64 it.kind, .slice A it.args.length k, .slice SA sides.length sk] 29 (0, 0)) := by
  rw [← hW0]
  exact zE (heap_alloc_new w _)
 have b1 : W0.heap[w.heap.size + 1]? = some (.cells #[.int .i64 0, .slice none 0 0, .slice none 0 0] 44 (0, 0)) := by
  rw [← hW0]
  simpa using heap_alloc_new (w.alloc (.cells #[.int .i64 it.kind, .slice A it.args.length k, .slice SA sides.length sk] 29)) (.cells #[.int .i64 0, .slice none 0 0, .slice none 0 0] 44)
 have HW0 := Lib.hid hW0
 clear hW0
 have HTY := Lib.hid (typ_any d 30 _ _ it W0 hS.1 (hT.move fun b hb _ => ⟨hb, fun _ => World.cell?_of_block (hB0.block b hb)⟩))
 clear hS hT hA
 go_enter Tryz.func13, Tryz.ntmps13
 go_upto_region 1 with (fail)
 rw [HW0.out]
 clear HW0
 have n0 := cell3_0 b0
 have n1 := yF b0
 have n2 := cell3_2 b0
 have l0 := zC b0
 have HB0 := Lib.hid hB0
 have HX0 := Lib.hid b0
 have HX1 := Lib.hid b1
 have HS0 := Lib.hid hs0
 clear b0 b1 hB0 hs0
 go_upto_region 2 with (go_at_call 24; (with_reducible refine HTY.out.mono ?_); rintro e w1 ⟨⟨v1, rfl, hT1⟩, hb1⟩; obtain ⟨IA, ik, rfl⟩ := hT1.form; have HT1 := Lib.hid hT1; have hbx := hb1; have m0 := cell3_0 ((hb1.block _ l0).trans HX0.out); have m1 := yF ((hb1.block _ l0).trans HX0.out); have m2 := cell3_2 ((hb1.block _ l0).trans HX0.out); have HB1 := Lib.hid hb1; have hs1 := hb1.size; clear hT1 hb1 hbx n0 n1 n2)
 have hw1 : w.heap.size < w1.heap.size := by omega
 go_wp2_with (fail)
 have HEV0 : Hid (EnI w1 (fun _ => False) w1.heap.size (.int .i64 it.kind) (.slice IA it.args.length ik) id sides d 0 none 0 [] (w1.alloc (.cells #[.int .i64 it.kind, .slice IA it.args.length ik, .slice none 0 0] 44))) :=
  ⟨(Below.refl _ w1).alloc (Nat.le_refl _) _, rfl, fun k hk => hk.elim, heap_alloc_new w1 _, World.ownsRow_nil _ _ _ _, fun i a hi => by omega⟩
 go_loopw [13] (fun iv wr => ∃ (j c : Nat) (AA : Option Addr) (cs : List Value), iv = .int .i64 (j : Int) ∧ j ≤ sides.length ∧ Hid (EnI w1 (fun _ => False) w1.heap.size (.int .i64 it.kind) (.slice IA it.args.length ik) id sides d j AA c cs wr)) (fun iv _ => 6000 - (intOf iv).toNat)
 case atStart => exact ⟨0, 0, none, [], rfl, Nat.zero_le _, HEV0⟩
 case round =>
  obtain ⟨j, cp, AA, cs, rfl, hj, HI⟩ := hrel
  have hbr := HI.out.below
  have hGr := zC HI.out.box
  have t0 := cell3_0 HI.out.box
  have t1 := yF HI.out.box
  have t2 := cell3_2 HI.out.box
  by_cases hlt : j < sides.length
  · have hjl : ((j : Int) < (sides.length : Int)) := by omega
    obtain ⟨b, o, rfl, hSb, hcells⟩ := HA.out (by omega)
    obtain ⟨B1, k1, h0, h1, h2, hbl⟩ := arg_cells hcells hlt
    have low : ∀ k, k < w.heap.size → wr.heap[k]? = w.heap[k]? := fun k hk => (hbr.block k (by have := HS0.out; omega)).trans ((HB1.out.block k (by have := HS0.out; omega)).trans (HB0.out.block k hk))
    have g0 : wr.cell? ⟨b, o + j * 2, none⟩ = some _ := (World.cell?_of_block (low b hSb)).trans h0
    have g1 : wr.cell? ⟨b, o + j * 2 + 1, none⟩ = some _ := (World.cell?_of_block (low b hSb)).trans h1
    have hat : sides[j]? = some sides[j] := List.getElem?_eq_getElem hlt
    have hdp := HSM.out.2.2 _ (List.getElem_mem hlt)
    generalize sides[j] = a at *
    have HAT := Lib.hid hat
    have hba := (Below.refl wr.heap.size wr).alloc (Nat.le_refl _) (.cells #[.int .i64 a.kind, .slice B1 a.args.length k1] 24)
    have HCL := Lib.hid (typ_any d 30 _ (.agg #[.int .i64 a.kind, .slice B1 a.args.length k1]) a ((wr.alloc (.cells #[.int .i64 a.kind, .slice B1 a.args.length k1] 24)).drew) hdp (((h2.set fun k hk => low k hk).below hba).below (Below.refl _ _).drew))
    have hcl : cs.length = j * 2 := HI.out.own.1
    have hbw : b < wr.heap.size := by have := HS0.out; have := hbr.size; omega
    clear h0 h1 h2 hat hdp hcells low
    have HOW := Lib.hid HI.out.own
    have HRR := Lib.hid HI.out.box
    have HBA := Lib.hid hba
    have hs1w : (wr.alloc (.cells #[.int .i64 a.kind, .slice B1 a.args.length k1] 24)).heap.size = wr.heap.size + 1 := by simp
    have HCA := Lib.hid (heap_alloc_new wr (.cells #[.int .i64 a.kind, .slice B1 a.args.length k1] 24))
    clear hba
    go_upto_region 5 with (fail)
    have c80 := zG HCA.out
    have c81 := zF HCA.out
    have hl8 := zC HCA.out
    have tG2 : (wr.alloc (.cells #[.int .i64 a.kind, .slice B1 a.args.length k1] 24)).cell? ⟨w1.heap.size, 2, none⟩ = some (.slice AA j cp) := (World.cell?_of_block (Below.heap_alloc wr _ _ hGr)).trans t2
    go_region_law
     (first
     | (go_simp; go_at_call 24; refine HCL.out.mono ?_; rintro e w3 ⟨⟨v3, rfl, hT3⟩, hb3⟩; obtain ⟨A3, c3, rfl⟩ := hT3.form; have hb3' : Below (wr.alloc (.cells #[.int .i64 a.kind, .slice B1 a.args.length k1] 24)).heap.size (wr.alloc (.cells #[.int .i64 a.kind, .slice B1 a.args.length k1] 24)) w3 := (Below.refl _ _).drew.trans hb3; have HT3 := Lib.hid hT3; have hs3 := hb3'.size; have hG3 : w1.heap.size < w3.heap.size := (by omega); have h83 : wr.heap.size < w3.heap.size := (by omega); have hbx3 : w3.heap[w1.heap.size]? = some (.cells #[.int .i64 it.kind, .slice IA it.args.length ik, .slice AA j cp] 44 (0, 0)) := ((hb3'.block _ (by omega)).trans (Below.heap_alloc wr _ _ hGr)).trans HRR.out; have q0 := cell3_0 hbx3; have q1 := yF hbx3; have q2 := cell3_2 hbx3; have hbx8 := (hb3'.block wr.heap.size hl8).trans HCA.out; have r0 := zG hbx8; have r1 := zF hbx8; have HOW3 : Hid (w3.ownsRow (w1.heap.size + 1) 34 2 (.slice AA j cp) j cs) := HOW.out.kept (row := none) ⟨hb3'.os, hb3'.tape, hb3'.output, by omega, fun k hk _ => (hb3'.block k (by omega)).trans (Below.heap_alloc wr _ k hk)⟩ (by cases AA <;> simp [Value.ownBlock]))
     | (refine step_append_lies _ (by rfl) _ _ _ (by rfl) (w1.heap.size + 1) 34 i0 (.agg #[.int .i64 0, .slice none 0 0]) 2 32 Tryz.underlying32 hi hq0 hq1 hq2 rfl (by omega) (.slice AA j cp) j cs (by rfl) (HOW3.out.alloc _) ⟨w3.heap.size, 0, none⟩ 1 1 [.int .i64 a.kind, .slice A3 a.args.length c3] (by rfl) (by rfl) (World.news_of_block (cs := #[.int .i64 a.kind, .slice A3 a.args.length c3]) (t := 34) (fr := (0, 0)) (heap_alloc_new w3 _)) (by simp [Value.oneCell']) (by omega) (by unfold maxLen; omega) (by omega) (by simp; omega) (w3.heap.size + 1) (by simp) ?_; intro gg cap w7 hown7 hg7 hat7 hlt7; have hP7 : w7.heap[w1.heap.size]? = some (.cells #[.int .i64 it.kind, .slice IA it.args.length ik, .slice AA j cp] 44 (0, 0)) := (hg7.block _ (by simp; omega) (fun e => by have := (HOW.out.lt _ e.symm).1; omega)).trans ((Below.heap_alloc w3 _ _ (by omega)).trans hbx3); have q7 := cell3_2 hP7; have qf7 := zB hP7 2; have hl7 := zC hP7; have hbx87 := (hg7.block wr.heap.size (by simp; omega) (fun e => by have := (HOW.out.lt _ e.symm).2; omega)).trans ((Below.heap_alloc w3 _ _ h83).trans hbx8); have r70 := zG hbx87; have r71 := zF hbx87)
     | fail)
    all_goals (
     have HI8 := Lib.hid (EnI.next HI.out hb3' (HT3.out.move fun b hb _ => ⟨.inr hb, fun _ => rfl⟩) HAT.out hg7 hown7 (hat7.imp id fun h => by simpa using h))
     clear hg7 hown7 hat7 hb3' hbx3 hP7 hbx8 hbx87
     go_wp2_with (fail)
     go_roundw
     case rel => exact ⟨j + 1, cap, some ⟨gg, 0, none⟩, _, by go_num, by omega, HI8⟩
     case measure => simp [intOf]; omega)
  · obtain rfl : j = sides.length := by omega
    have hjl : ¬ ((sides.length : Int) < (sides.length : Int)) := by omega
    have y0r := (hbr.block (w.heap.size + 1) (by have := HS0.out; omega)).trans ((HB1.out.block (w.heap.size + 1) (by have := HS0.out; omega)).trans HX1.out)
    have v0 := cell3_0 y0r
    have v1 := yF y0r
    have v2 := cell3_2 y0r
    have vf0 := zB y0r 0
    have vf1 := zB y0r 1
    have vf2 := zB y0r 2
    have vl := zC y0r
    go_wp2_with (fail)
    refine bodyPost_ret (v := .agg #[.int .i64 it.kind, .slice IA it.args.length ik, .slice AA sides.length cp]) (by simp [results, Tryz.results13, go_sem, v0, v1, v2]) rfl ?_
    have hB1' : Below w.heap.size w wr := (HB0.out.trans (HB1.out.mono (by have := HS0.out; omega))).trans (hbr.mono (by have := HS0.out; omega))
    have far : ∀ b, b ≠ w.heap.size + 1 → (((wr.setCell ⟨w.heap.size + 1, 0, none⟩ (.int .i64 it.kind)).setCell ⟨w.heap.size + 1, 1, none⟩ (.slice IA it.args.length ik)).setCell ⟨w.heap.size + 1, 2, none⟩ (.slice AA sides.length cp)).heap[b]? = wr.heap[b]? := fun b hb => by
     rw [Below.heap_setCell _ _ _ _ (by show b ≠ w.heap.size + 1; exact hb), Below.heap_setCell _ _ _ _ (by show b ≠ w.heap.size + 1; exact hb), Below.heap_setCell _ _ _ _ (by show b ≠ w.heap.size + 1; exact hb)]
    have hlt := HI.out.own.lt
    refine ⟨⟨IA, ik, AA, cp, cs, d, rfl, ?_, own_low (ownsRow_setCell_below (ownsRow_setCell_below (ownsRow_setCell_below HI.out.own (a := ⟨w.heap.size + 1, 0, none⟩) (by show w.heap.size + 1 < w1.heap.size + 1; omega) _) (a := ⟨w.heap.size + 1, 1, none⟩) (by show w.heap.size + 1 < w1.heap.size + 1; omega) _) (a := ⟨w.heap.size + 1, 2, none⟩) (by show w.heap.size + 1 < w1.heap.size + 1; omega) _) (by omega), ?_⟩, ((hB1'.setCell (p := ⟨w.heap.size + 1, 0, none⟩) (Nat.le_succ _) _).setCell (p := ⟨w.heap.size + 1, 1, none⟩) (Nat.le_succ _) _).setCell (p := ⟨w.heap.size + 1, 2, none⟩) (Nat.le_succ _) _⟩
    · exact HT1.out.move fun b hb hl => ⟨⟨by have := HS0.out; show w.heap.size ≤ b; omega, fun e => by have := (hlt b e.symm).1; omega⟩, fun _ => World.cell?_of_block (by
        rw [far b (by have := HS0.out; omega)]
        exact hbr.block b hl)⟩
    · intro i a hi
      obtain ⟨u0, u1, g0, g1, g2⟩ := HI.out.args i a (List.getElem?_eq_some_iff.1 hi).1 hi
      exact ⟨u0, u1, g0, g1, g2.move fun b hb _ => ⟨⟨by have := hb.1.elim False.elim id; show w.heap.size ≤ b; omega, hb.2⟩, fun _ => World.cell?_of_block (far b (by have := hb.1.elim False.elim id; omega))⟩⟩
theorem env_any (d : Nat) (it : Ty) (sides : List Ty) (A SA : Option Addr) (k sk : Nat) (w : World) (hT : TyAt w (fun k => k < w.heap.size) d (.agg #[.int .i64 it.kind, .slice A it.args.length k]) it) (hA : Knd.yE w (fun k => k < w.heap.size) d SA sides) (hS : SmE it sides) :
 Calls Tryz.prog 13 #[.agg #[.int .i64 it.kind, .slice A it.args.length k, .slice SA sides.length sk]] w fun e w' => EvOut w w' e it sides ∧ Below w.heap.size w w' := by
 refine (env_own d it sides A SA k sk w hT hA hS).mono ?_
 rintro e w' ⟨⟨IA, ik, AA, ak, cs, D, rfl, h1, h2, h3⟩, hb⟩
 refine ⟨⟨IA, ik, AA, ak, D, rfl, h1.move fun b hb _ => ⟨hb.1, fun _ => rfl⟩, fun hl => ?_⟩, hb⟩
 have hcl := h2.1
 rcases h2.2 with ⟨e, h0⟩ | ⟨g, cap, cur, e, hbg, hg, hnc, _⟩
 · exact absurd hl (by omega)
 · injection e with e1 e2 e3
   subst e1
   refine ⟨g, 0, rfl, hbg, fun j a ha => ?_⟩
   obtain ⟨u0, u1, g0, g1, g2⟩ := h3 j a ha
   have hjl := (List.getElem?_eq_some_iff.1 ha).1
   refine ⟨u0, u1, ?_, ?_, g2.move fun b hb _ => ⟨hb.1, fun _ => rfl⟩⟩
   · rw [Nat.zero_add, h2.cellAt _ (by omega)]; exact g0
   · rw [Nat.zero_add, h2.cellAt _ (by omega)]; exact g1
