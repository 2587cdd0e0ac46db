import Derived.Test.YtaecndmncpfpfaaGreatDoorCn
namespace Go.Proofs.YtaecndmncpfpfaaGreatDoor
open Go.RowKit
def bindR (r1 : Except (Int × List Int) Ty) (r2 : Ty → Except (Int × List Int) Ty) : Except (Int × List Int) Ty :=
 match r1 with
 | .error x => .error x
 | .ok t => r2 t
theorem WkI.low_ {w w' : World} {W : Nat} {P : Nat → Prop} {it : Ty} {sides : List Ty} {names : List (List UInt8 × Ty)} {NA : Option Addr} {nk : Nat} {AV : Value} {ps : List Int} (h : WkI w W P it sides names NA nk AV ps) (hb : Below w.heap.size w w') : WkI w' W P it sides names NA nk AV ps :=
 h.step (WkS.of_below hb) (WkS.of_below hb).box (h.own.kept (row := none) ⟨hb.os, hb.tape, hb.output, hb.size, fun k hk _ => hb.block k hk⟩ (Classical.em _))
theorem WkI.ownlt {w : World} {W : Nat} {P : Nat → Prop} {it : Ty} {sides : List Ty} {names : List (List UInt8 × Ty)} {NA : Option Addr} {nk : Nat} {AV : Value} {ps : List Int} (h : WkI w W P it sides names NA nk AV ps) : ∀ g, AV.ownBlock = some g → g < w.heap.size := fun g hg => (h.own.lt g hg).2
theorem ret_ok {w w9 w12 : World} {W : Nat} {P : Nat → Prop} {it : Ty} {sides : List Ty} {names : List (List UInt8 × Ty)} {NA : Option Addr} {nk d : Nat} {AV AV9 v : Value} {ps : List Int} {t : Ty}
    (h0 : WkI w W P it sides names NA nk AV ps) (h9 : WkI w9 W P it sides names NA nk AV9 ps) (hs : WkS w w9 W AV AV9)
    (hg9 : ∀ g, AV9.ownBlock = some g → g ≠ w.heap.size + 1) (far : ∀ b, b < w9.heap.size → b ≠ w.heap.size + 1 → w12.heap[b]? = w9.heap[b]?) (s12 : w9.heap.size ≤ w12.heap.size) (ho : w12.os = w9.os ∧ w12.output = w9.output ∧ w12.tape = w9.tape)
    (hT : TyAt w9 (fun k => P k ∨ (w.heap.size + 2 ≤ k ∧ k < w9.heap.size ∧ some k ≠ AV9.ownBlock)) d v t) :
    InOut w w12 W P it sides names NA nk AV ps (.returned (.tuple #[v, .int .i64 0])) (.ok t) := by
 have hWl := h0.lt
 have hW9 := h9.lt
 have hP : ∀ k, P k → k < w.heap.size ∧ k ≠ W := fun k hk => ⟨(h0.sep k hk).1, (h0.sep k hk).2.1⟩
 have hsz := hs.size
 have kp : ∀ k, P k → w12.heap[k]? = w9.heap[k]? := fun k hk => far k (by have := (hP k hk).1; omega) (by have := (hP k hk).1; omega)
 refine ⟨AV9, v, d, rfl, hT.move fun b hb _ => ?_, h9.step2 kp (fun k hk => ⟨by have := (hP k hk).1; omega, (hP k hk).2, (h9.sep k hk).2.2⟩) (h9.glob.kept (far _ (by have := h9.low; omega) (by have := h9.low; omega))) (fun a b c d h => (far W (by omega) (by omega)).trans h) ⟨h9.own.1, h9.own.2.imp id ?_⟩, ⟨ho.1.trans hs.os, ho.2.2.trans hs.tape, ho.2.1.trans hs.output, Nat.le_trans hs.size s12, fun k hk hW hA => (far k (by omega) (by omega)).trans (hs.block k hk hW hA), hs.own, fun a b c d h => (far W (by omega) (by omega)).trans (hs.box a b c d h)⟩⟩
 · rcases hb with hb | ⟨h1, h2, h3⟩
   · exact ⟨.inl hb, fun _ => World.cell?_of_block (kp b hb)⟩
   · exact ⟨.inr ⟨by omega, by omega, h3⟩, fun _ => World.cell?_of_block (far b h2 (by omega))⟩
 · rintro ⟨g, c, cur, e, hb, hh, r⟩
   exact ⟨g, c, cur, e, hb, (far g (zC hh) (hg9 g (by rw [e]; rfl))).trans hh, r⟩
theorem wn_ty {w3 wz w7 : World} {W n1 d : Nat} {P Q : Nat → Prop} {AV3 AV7 v : Value} {t : Ty} (hQ : ∀ k, Q k → P k ∨ (n1 ≤ k ∧ k < w3.heap.size ∧ some k ≠ AV3.ownBlock) ∨ (w3.heap.size ≤ k ∧ k < wz.heap.size))
    (h3 : ∀ g, AV3.ownBlock = some g → g < w3.heap.size) (n13 : n1 ≤ w3.heap.size) (s3z : w3.heap.size ≤ wz.heap.size) (hs : WkS wz w7 W AV3 AV7)
    (hT : TyAt w7 (fun k => P k ∨ Q k ∨ (wz.heap.size ≤ k ∧ k < w7.heap.size ∧ some k ≠ AV7.ownBlock)) d v t) : TyAt w7 (fun k => P k ∨ (n1 ≤ k ∧ k < w7.heap.size ∧ some k ≠ AV7.ownBlock)) d v t := by
 have hsz := hs.size
 refine hT.move fun b hb _ => ⟨?_, fun _ => rfl⟩
 have fin : ∀ {b}, n1 ≤ b → b < wz.heap.size → some b ≠ AV3.ownBlock → n1 ≤ b ∧ b < w7.heap.size ∧ some b ≠ AV7.ownBlock := fun {b} h1 h2 hne => ⟨h1, by omega, fun e => by
  rcases hs.own with e3 | e3
  · exact hne (e.trans e3)
  · have := e3 b e.symm
    omega⟩
 rcases hb with hb | hb | ⟨k1, k2, k3⟩
 · exact .inl hb
 · rcases hQ b hb with h | ⟨h1, h2, hne⟩ | ⟨h1, h2⟩
   · exact .inl h
   · exact .inr (fin h1 (by omega) hne)
   · exact .inr (fin (by omega) h2 (fun e => by have := h3 b e.symm; omega))
 · exact .inr ⟨by omega, k2, k3⟩
theorem fr_of {w3 wz : World} {W n1 : Nat} {P Q : Nat → Prop} {it : Ty} {sides : List Ty} {names : List (List UInt8 × Ty)} {NA : Option Addr} {nk : Nat} {AV3 : Value} {ps : List Int} (h : WkI w3 W P it sides names NA nk AV3 ps) (hQ : ∀ k, Q k → P k ∨ (n1 ≤ k ∧ k < w3.heap.size ∧ some k ≠ AV3.ownBlock) ∨ (w3.heap.size ≤ k ∧ k < wz.heap.size)) (hW : W < n1) (s3z : w3.heap.size ≤ wz.heap.size) : ∀ k, Q k → Fr wz.heap.size W AV3 k := fun k hk => by
 have hl := h.lt
 rcases hQ k hk with h1 | ⟨h1, h2, h3⟩ | ⟨h1, h2⟩
 · exact ⟨by have := (h.sep k h1).1; omega, (h.sep k h1).2⟩
 · exact ⟨by omega, by omega, h3⟩
 · exact ⟨h2, by omega, fun e => by have := h.ownlt k e.symm; omega⟩
theorem bty_one {w : World} {Q : Nat → Prop} {d blk c : Nat} {x : List UInt8 × Ty} {A : Option Addr} {T : TypeId} (hb : w.heap[blk]? = some (.cells #[.string ⟨x.1.toArray⟩, .int .i64 x.2.kind, .slice A x.2.args.length c] T (0, 0))) (hQ : Q blk) (hT : TyAt w Q d (.agg #[.int .i64 x.2.kind, .slice A x.2.args.length c]) x.2) : BTy w Q d (some ⟨blk, 0, none⟩) [x] := fun _ =>
 ⟨blk, 0, rfl, hQ, fun j y hy => by
  cases j with
  | zero =>
    simp at hy
    subst hy
    exact ⟨_, _, zD (i := 0) hb rfl, zD (i := 1) hb rfl, zD (i := 2) hb rfl, hT⟩
  | succ j => simp at hy⟩
set_option maxRecDepth 100000 in
set_option maxHeartbeats 1000000 in
theorem let_any (W : Nat) (P S : Nat → Prop) (it : Ty) (sides : List Ty) (names : List (List UInt8 × Ty)) (NA : Option Addr) (nk : Nat) (AV : Value) (ps : List Int) (nv : Value) (n kn : Nd) (dn : Nat) (r1 : Except (Int × List Int) Ty) (r2 : Ty → Except (Int × List Int) Ty) (w : World)
    (hW : WkI w W P it sides names NA nk AV ps) (hnl : names.length ≤ 500) (hnil : names.length = 0 → NA = none ∧ nk = 0) (hk1 : n.kids.length ≤ 64) (hkn : n.kids[0]? = some kn) (hn : NdAt w S (dn + 1) nv n) (hS : ∀ k, S k → Fr w.heap.size W AV k)
    (hK1 : ∀ (w1 : World), WkI w1 W P it sides names NA nk AV ps → NdAt w1 S (dn + 1) nv n → (∀ k, S k → Fr w1.heap.size W AV k) →
      Calls Tryz.prog 93 #[.pointer (some ⟨W, 0, none⟩), nv, .int .i64 1] w1 fun e w2 => InOut w1 w2 W P it sides names NA nk AV ps e r1)
    (hK2 : ∀ (P' : Nat → Prop) (t : Ty) (AV' : Value) (g cap : Nat) (w1 : World), r1 = .ok t → WkI w1 W P' it sides (names ++ [(kn.text, t)]) (some ⟨g, 0, none⟩) cap AV' ps → NdAt w1 S (dn + 1) nv n → (∀ k, S k → Fr w1.heap.size W AV' k) → (∀ k, P k → P' k) →
      Calls Tryz.prog 93 #[.pointer (some ⟨W, 0, none⟩), nv, .int .i64 ((n.kids.length : Int) - 1)] w1 fun e w2 => InOut w1 w2 W P' it sides (names ++ [(kn.text, t)]) (some ⟨g, 0, none⟩) cap AV' ps e (r2 t)) :
    Calls Tryz.prog 58 #[.pointer (some ⟨W, 0, none⟩), nv] w fun e w' => InOut w w' W P it sides names NA nk AV ps e (bindR r1 r2) := by
 have HN := Lib.hid hn
 obtain ⟨A, c, K, k, rfl, _, hlk, hkc⟩ := hn
 have hpl : 0 < n.kids.length := (List.getElem?_eq_some_iff.1 hkn).1
 obtain ⟨kb, ko, rfl, hSk, hkj⟩ := hkc hpl
 obtain ⟨u0, u1, u2, u3, u4, u5, h0, h1, h2, h3, h4, h5, hkid⟩ := hkj 0 kn hkn
 obtain ⟨B1, j1, B2, j2, hkv⟩ := hkid.form
 obtain rfl : u2 = .string ⟨kn.text.toArray⟩ := by
  injection hkv with hkv
  have e := congrArg Array.toList hkv
  simp only [List.cons.injEq] at e
  exact e.2.2.1
 have hWl := hW.lt
 have HW := Lib.hid hW
 have HS := Lib.hid hS
 have HK1 := Lib.hid hK1
 have HK2 := Lib.hid hK2
 have l0 : (0 : Int) < (n.kids.length : Int) := by omega
 clear hW hS hK1 hK2 hkj hkc
 go_enter Tryz.func58, Tryz.ntmps58
 go_wp2_with (fail)
 obtain ⟨w1, hw1⟩ : ∃ w1, (w.alloc (.cells #[.string ⟨n.op.toArray⟩, .int .i64 n.int, .string ⟨n.text.toArray⟩, .int .i64 n.ty.kind, .slice A n.ty.args.length c, .slice (some ⟨kb, ko, none⟩) n.kids.length k] 41)).alloc (.cells #[.int .i64 0, .slice none 0 0] 34) = w1 := ⟨_, rfl⟩
 have hWI1 : WkI w1 W P it sides names NA nk AV ps := by rw [← hw1]; exact (HW.out.alloc _).alloc _
 have hb1 : Below w.heap.size w w1 := by
  rw [← hw1]
  exact ((Below.refl w.heap.size w).alloc (Nat.le_refl _) _).alloc (by simp) _
 have h10 : w1.heap[w.heap.size]? = some (.cells #[.string ⟨n.op.toArray⟩, .int .i64 n.int, .string ⟨n.text.toArray⟩, .int .i64 n.ty.kind, .slice A n.ty.args.length c, .slice (some ⟨kb, ko, none⟩) n.kids.length k] 41 (0, 0)) := by
  rw [← hw1]
  exact (Below.heap_alloc _ _ _ (by simp)).trans (heap_alloc_new w _)
 have h11 : w1.heap[w.heap.size + 1]? = some (.cells #[.int .i64 0, .slice none 0 0] 34 (0, 0)) := by
  rw [← hw1]
  simpa using heap_alloc_new (w.alloc (.cells #[.string ⟨n.op.toArray⟩, .int .i64 n.int, .string ⟨n.text.toArray⟩, .int .i64 n.ty.kind, .slice A n.ty.args.length c, .slice (some ⟨kb, ko, none⟩) n.kids.length k] 41)) (.cells #[.int .i64 0, .slice none 0 0] 34)
 have hs1 : w1.heap.size = w.heap.size + 2 := by rw [← hw1]; simp
 have HOWL : Hid (∀ g, AV.ownBlock = some g → g < w.heap.size) := Lib.hid fun g hg => (HW.out.own.lt g hg).2
 have HC1 := Lib.hid (HK1.out w1 hWI1 (HN.out.below hb1) (fun k hk => ⟨by have := (HS.out k hk).1; omega, (HS.out k hk).2⟩))
 have HB1 := Lib.hid hb1
 have H10 := Lib.hid h10
 have H11 := Lib.hid h11
 rw [hw1]
 clear hw1 hWI1 hb1 h10 h11
 refine HC1.out.mono ?_
 rintro e w3 ho
 cases r1 with
 | error x =>
   obtain ⟨no, qs⟩ := x
   obtain ⟨hno, AV3, rfl, hWI, hWS⟩ := ho
   have hs3 := hWS.size
   have hr3 := (hWS.block (w.heap.size + 1) (by omega) (by omega) (fun e => by have := HOWL.out _ e.symm; omega)).trans H11.out
   have hr4 := (Below.heap_alloc w3 (.cells #[.int .i64 0, .slice none 0 0] 34) _ (zC hr3)).trans hr3
   have x0 := zD (i := 0) hr4 rfl
   have x1 := zD (i := 1) hr4 rfl
   have xf0 := zI (i := 0) hr4
   have xf1 := zI (i := 1) hr4
   have HWI := Lib.hid hWI
   have HWS := Lib.hid ((WkS.of_below (W := W) (AV := AV) HB1.out).trans hWS)
   have HOW3 : Hid (∀ g, AV3.ownBlock = some g → g ≠ w.heap.size + 1) := Lib.hid fun g hg => by
    rcases hWS.own with e | e
    · rw [e] at hg
      have := HOWL.out g hg
      omega
    · have := e g hg
      omega
   have hno' : (no == 0) = false := by simp [hno]
   clear hWI hWS hr3 hr4
   go_wp2_with (fail)
   refine bodyPost_ret (v := .tuple #[.agg #[.int .i64 0, .slice none 0 0], .int .i64 no]) (by simp [results, Tryz.results58, go_sem, x0, x1]) rfl ?_
   refine kid_err HW.out HWI.out HWS.out hno HOW3.out (fun b hb hn1 => ?_) (by simp [World.setCell]) ⟨rfl, rfl, rfl⟩
   rw [Below.heap_setCell _ _ _ _ (by show b ≠ w.heap.size + 1; exact hn1), Below.heap_setCell _ _ _ _ (by show b ≠ w.heap.size + 1; exact hn1)]
   exact Below.heap_alloc w3 _ b hb
 | ok t =>
   obtain ⟨AV3, v, d3, rfl, hT3, hWI, hWS⟩ := ho
   obtain ⟨A6, k6, rfl⟩ := hT3.form
   have hs3 := hWS.size
   have hr3 := (hWS.block (w.heap.size + 1) (by omega) (by omega) (fun e => by have := HOWL.out _ e.symm; omega)).trans H11.out
   have hn3 := (hWS.block w.heap.size (by omega) (by omega) (fun e => by have := HOWL.out _ e.symm; omega)).trans H10.out
   have hW2 : W < w.heap.size + 2 := by omega
   have n13 : w.heap.size + 2 ≤ w3.heap.size := by omega
   have HQC : Hid (∀ (wz : World) (k : Nat), w3.heap.size < wz.heap.size → (P k ∨ (w.heap.size + 2 ≤ k ∧ k < w3.heap.size ∧ some k ≠ AV3.ownBlock)) ∨ k = w3.heap.size + 1 → w3.heap.size + 1 < wz.heap.size → P k ∨ (w.heap.size + 2 ≤ k ∧ k < w3.heap.size ∧ some k ≠ AV3.ownBlock) ∨ (w3.heap.size ≤ k ∧ k < wz.heap.size)) := Lib.hid fun wz k _ h hz => by
    rcases h with (h | h) | h
    · exact .inl h
    · exact .inr (.inl h)
    · exact .inr (.inr ⟨by omega, by omega⟩)
   have HWI := Lib.hid hWI
   have HNW := Lib.hid (hWS.trans (WkS.of_below (W := W) (AV := AV3) (Below.refl _ w3)))
   have HT3 : Hid (TyAt w3 (fun k => (P k ∨ (w.heap.size + 2 ≤ k ∧ k < w3.heap.size ∧ some k ≠ AV3.ownBlock)) ∨ k = w3.heap.size + 1) d3 (.agg #[.int .i64 t.kind, .slice A6 t.args.length k6]) t) := Lib.hid (hT3.move fun b hb _ => ⟨.inl (by rw [hs1] at hb; exact hb), fun _ => rfl⟩)
   have HS3 : Hid (∀ k, S k → Fr w3.heap.size W AV3 k ∧ w3.heap[k]? = w1.heap[k]?) := Lib.hid fun k hk => Fr.step hWS ⟨by have := (HS.out k hk).1; omega, (HS.out k hk).2⟩
   have HN1 := Lib.hid (HN.out.below HB1.out)
   have HWN : Hid (∀ wz : World, Below w3.heap.size w3 wz → wz.heap[w3.heap.size + 1]? = some (.cells #[.string ⟨kn.text.toArray⟩, .int .i64 t.kind, .slice A6 t.args.length k6] 160 (0, 0)) →
       Calls Tryz.prog 94 #[.pointer (some ⟨W, 0, none⟩), .agg #[.string ⟨n.op.toArray⟩, .int .i64 n.int, .string ⟨n.text.toArray⟩, .int .i64 n.ty.kind, .slice A n.ty.args.length c, .slice (some ⟨kb, ko, none⟩) n.kids.length k], .slice (some ⟨w3.heap.size + 1, 0, none⟩) 1 1] wz fun e w' => WnOut wz w' W P (fun k => (P k ∨ (w.heap.size + 2 ≤ k ∧ k < w3.heap.size ∧ some k ≠ AV3.ownBlock)) ∨ k = w3.heap.size + 1) it sides names NA nk AV3 ps e (r2 t)) := Lib.hid fun wz hb hblk => by
    have hlz := zC hblk
    have hfr := fr_of (wz := wz) HWI.out (fun k hk => HQC.out wz k (by omega) hk hlz) hW2 hb.size
    refine within_any W P _ S it sides names [(kn.text, t)] NA (some ⟨w3.heap.size + 1, 0, none⟩) nk 1 d3 AV3 ps _ n dn (r2 t) wz (HWI.out.low_ hb) hnl hnil (by simp) (by simp) (bty_one (x := (kn.text, t)) hblk (.inr rfl) (HT3.out.below hb)) hfr hpl hk1 ((HN1.out.move fun b hb' _ => ⟨hb', fun _ => World.cell?_of_block (HS3.out b hb').2⟩).below hb) (fun k hk => ⟨by have := (HS3.out k hk).1.1; have := hb.size; omega, (HS3.out k hk).1.2⟩) ?_
    intro g cap w5 hw5 hn5 hs5
    exact HK2.out _ t AV3 g cap w5 rfl hw5 hn5 hs5 (fun k hk => .inl hk)
   have HWS := Lib.hid ((WkS.of_below (W := W) (AV := AV) HB1.out).trans hWS)
   have HR3 := Lib.hid hr3
   have HN3 := Lib.hid hn3
   have HO3 : Hid (∀ g, AV3.ownBlock = some g → g < w3.heap.size ∧ (g < w.heap.size ∨ w.heap.size + 2 ≤ g)) := Lib.hid fun g hg => ⟨HWI.out.ownlt g hg, by
    rcases hWS.own with e | e
    · rw [e] at hg
      have := HOWL.out g hg
      omega
    · have := e g hg
      omega⟩
   have k2 := ((World.cell?_of_block ((HS3.out kb hSk).2.trans (HB1.out.block kb (HS.out kb hSk).1))).trans h2)
   have hb4 := (Below.refl w3.heap.size w3).alloc (Nat.le_refl _) (.cells #[.int .i64 t.kind, .slice A6 t.args.length k6] 34)
   have hd4 := heap_alloc_new w3 (.cells #[.int .i64 t.kind, .slice A6 t.args.length k6] 34)
   have hs4 : (w3.alloc (.cells #[.int .i64 t.kind, .slice A6 t.args.length k6] 34)).heap.size = w3.heap.size + 1 := by simp
   clear hT3 hWI hWS hr3 hn3 h0 h1 h2 h3 h4 h5
   have hkb3 : kb < w3.heap.size := (HS3.out kb hSk).1.1
   have hkb0 : kb < w.heap.size := (HS.out kb hSk).1
   have hkbW : kb ≠ W := (HS3.out kb hSk).1.2.1
   have HKA : Hid (some kb ≠ AV3.ownBlock) := Lib.hid (HS3.out kb hSk).1.2.2
   have HNA : Hid (some w.heap.size ≠ AV3.ownBlock) := Lib.hid (fun e => by have := (HO3.out _ e.symm).2; omega)
   have HRA : Hid (some (w.heap.size + 1) ≠ AV3.ownBlock) := Lib.hid (fun e => by have := (HO3.out _ e.symm).2; omega)
   have HDA : Hid (some w3.heap.size ≠ AV3.ownBlock) := Lib.hid (fun e => by have := (HO3.out _ e.symm).1; omega)
   obtain ⟨r, hr⟩ : ∃ r, r = r2 t := ⟨_, rfl⟩
   rw [← hr] at HWN
   have HR2 := Lib.hid hr
   clear hr
   go_upto_region 4 with (fail)
   generalize w3.alloc (.cells #[.int .i64 t.kind, .slice A6 t.args.length k6] 34) = w4 at *
   have k2 := (hb4.cell (p := ⟨kb, ko + 2, none⟩) hkb3).trans (by simpa using k2)
   have hn4 := (hb4.block w.heap.size (by omega)).trans HN3.out
   have hr4 := (hb4.block (w.heap.size + 1) (by omega)).trans HR3.out
   have n0 : w4.cell? ⟨w.heap.size, 0, none⟩ = some (.string ⟨n.op.toArray⟩) := zD (i := 0) hn4 rfl
   have n1 : w4.cell? ⟨w.heap.size, 1, none⟩ = some (.int .i64 n.int) := zD (i := 1) hn4 rfl
   have n2 : w4.cell? ⟨w.heap.size, 2, none⟩ = some (.string ⟨n.text.toArray⟩) := zD (i := 2) hn4 rfl
   have n3 : w4.cell? ⟨w.heap.size, 3, none⟩ = some (.int .i64 n.ty.kind) := zD (i := 3) hn4 rfl
   have n4 : w4.cell? ⟨w.heap.size, 4, none⟩ = some (.slice A n.ty.args.length c) := zD (i := 4) hn4 rfl
   have n5 : w4.cell? ⟨w.heap.size, 5, none⟩ = some (.slice (some ⟨kb, ko, none⟩) n.kids.length k) := zD (i := 5) hn4 rfl
   have d0 : w4.cell? ⟨w3.heap.size, 0, none⟩ = some (.int .i64 t.kind) := zD (i := 0) hd4 rfl
   have d1 : w4.cell? ⟨w3.heap.size, 1, none⟩ = some (.slice A6 t.args.length k6) := zD (i := 1) hd4 rfl
   have hB4 : Below w3.heap.size w3 w4 := hb4
   have HFAR : Hid (∀ (wz w7 : World) (AV7 : Value), Below w4.heap.size w4 wz → WkS wz w7 W AV3 AV7 → (∀ k, k < w4.heap.size → k ≠ W → some k ≠ AV3.ownBlock → w7.heap[k]? = w4.heap[k]?) ∧ w4.heap.size ≤ w7.heap.size) := Lib.hid fun wz w7 AV7 hz h7 => ⟨fun k hk hW hA => (h7.block k (by have := hz.size; omega) hW hA).trans (hz.block k hk), by have := hz.size; have := h7.size; omega⟩
   have hWl3 : W < w3.heap.size := by omega
   have hBz : Below w3.heap.size w3 (w4.alloc (.cells #[.string ⟨kn.text.toArray⟩, .int .i64 t.kind, .slice A6 t.args.length k6] 160)).drew := (hb4.alloc (by omega) _).drew
   have hBzz : Below w4.heap.size w4 (w4.alloc (.cells #[.string ⟨kn.text.toArray⟩, .int .i64 t.kind, .slice A6 t.args.length k6] 160)).drew := ((Below.refl _ w4).alloc (Nat.le_refl _) _).drew
   have HCN := Lib.hid (HWN.out _ hBz (by have h := heap_alloc_new w4 (.cells #[.string ⟨kn.text.toArray⟩, .int .i64 t.kind, .slice A6 t.args.length k6] 160); rw [hs4] at h; exact h))
   have HBZ := Lib.hid hBz
   have HBZZ := Lib.hid hBzz
   clear hBz hBzz
   cases r with
   | ok u =>
     go_region_held3 (fun w' => w'.cell? ⟨w.heap.size, 0, none⟩ = some (.string ⟨n.op.toArray⟩) ∧ w'.cell? ⟨w.heap.size, 1, none⟩ = some (.int .i64 n.int) ∧ w'.cell? ⟨w.heap.size, 2, none⟩ = some (.string ⟨n.text.toArray⟩) ∧ w'.cell? ⟨w.heap.size, 3, none⟩ = some (.int .i64 n.ty.kind) ∧ w'.cell? ⟨w.heap.size, 4, none⟩ = some (.slice A n.ty.args.length c) ∧ w'.cell? ⟨w.heap.size, 5, none⟩ = some (.slice (some ⟨kb, ko, none⟩) n.kids.length k) ∧ w'.cell? ⟨kb, ko + 2, none⟩ = some (.string ⟨kn.text.toArray⟩) ∧ w'.cell? ⟨w3.heap.size, 0, none⟩ = some (.int .i64 t.kind) ∧ w'.cell? ⟨w3.heap.size, 1, none⟩ = some (.slice A6 t.args.length k6))
      ((refine ⟨?_, ?_, ?_, ?_, ?_, ?_, ?_, ?_, ?_⟩ <;> (repeat' (first | with_reducible assumption | with_reducible refine zX ?_ | with_reducible refine cell_alloc2 ?_ ?_ | with_reducible refine cell_set_some ?_ ?_ | (show _ < w4.heap.size; omega) | (dsimp only; omega)))))
      (first | (go_at_call 94; refine HCN.out.mono ?_; rintro e w7 ⟨AV7, v7, d7, rfl, hT7, hWI7, hWS7⟩; obtain ⟨A9, k9, rfl⟩ := hT7.form; have HT7 := Lib.hid hT7; have HWI7 := Lib.hid hWI7; have HWS7 := Lib.hid hWS7; have hF := HFAR.out _ w7 AV7 HBZZ.out hWS7; clear hT7 hWI7 hWS7; have m0 : w7.cell? ⟨w.heap.size, 0, none⟩ = some (.string ⟨n.op.toArray⟩) := (World.cell?_of_block (hF.1 w.heap.size (by omega) (by omega) HNA.out)).trans n0; have m1 : w7.cell? ⟨w.heap.size, 1, none⟩ = some (.int .i64 n.int) := (World.cell?_of_block (hF.1 w.heap.size (by omega) (by omega) HNA.out)).trans n1; have m2 : w7.cell? ⟨w.heap.size, 2, none⟩ = some (.string ⟨n.text.toArray⟩) := (World.cell?_of_block (hF.1 w.heap.size (by omega) (by omega) HNA.out)).trans n2; have m3 : w7.cell? ⟨w.heap.size, 3, none⟩ = some (.int .i64 n.ty.kind) := (World.cell?_of_block (hF.1 w.heap.size (by omega) (by omega) HNA.out)).trans n3; have m4 : w7.cell? ⟨w.heap.size, 4, none⟩ = some (.slice A n.ty.args.length c) := (World.cell?_of_block (hF.1 w.heap.size (by omega) (by omega) HNA.out)).trans n4; have m5 : w7.cell? ⟨w.heap.size, 5, none⟩ = some (.slice (some ⟨kb, ko, none⟩) n.kids.length k) := (World.cell?_of_block (hF.1 w.heap.size (by omega) (by omega) HNA.out)).trans n5; have mk : w7.cell? ⟨kb, ko + 2, none⟩ = some (.string ⟨kn.text.toArray⟩) := (World.cell?_of_block (hF.1 kb (by omega) hkbW HKA.out)).trans k2; have md0 : w7.cell? ⟨w3.heap.size, 0, none⟩ = some (.int .i64 t.kind) := (World.cell?_of_block (hF.1 w3.heap.size (by omega) (by omega) HDA.out)).trans d0; have md1 : w7.cell? ⟨w3.heap.size, 1, none⟩ = some (.slice A6 t.args.length k6) := (World.cell?_of_block (hF.1 w3.heap.size (by omega) (by omega) HDA.out)).trans d1; have rr := (hF.1 (w.heap.size + 1) (by omega) (by omega) HRA.out).trans hr4; have q0 := zD (i := 0) rr rfl; have q1 := zD (i := 1) rr rfl; have qf0 := zI (i := 0) rr; have qf1 := zI (i := 1) rr; have hs7 := hF.2; clear hF rr))
     all_goals go_wp2_with (fail)
     have hsz := HBZ.out.size
     have HG7 : Hid (∀ g, AV7.ownBlock = some g → g ≠ w.heap.size + 1) := Lib.hid fun g hg => by
      rcases HWS7.out.own with e | e
      · rw [e] at hg
        have := (HO3.out g hg).2
        omega
      · have := e g hg
        omega
     have HST := Lib.hid (HWS.out.trans ((WkS.of_below (W := W) (AV := AV3) HBZ.out).trans HWS7.out))
     refine bodyPost_ret (v := .tuple #[.agg #[.int .i64 u.kind, .slice A9 u.args.length k9], .int .i64 0]) (by simp [results, Tryz.results58, go_sem, q0, q1]) rfl ?_
     rw [show bindR (.ok t) r2 = .ok u from HR2.out.symm]
     refine ret_ok HW.out HWI7.out HST.out HG7.out (fun b hb hn1 => ?_) (by simp [World.setCell]) ⟨rfl, rfl, rfl⟩ (wn_ty (fun k hk => HQC.out _ k (by simp [hs4] <;> omega) hk (by simp [hs4])) (fun g hg => (HO3.out g hg).1) n13 hsz HWS7.out HT7.out)
     rw [Below.heap_setCell _ _ _ _ (by show b ≠ w.heap.size + 1; exact hn1), Below.heap_setCell _ _ _ _ (by show b ≠ w.heap.size + 1; exact hn1)]
   | error x =>
     obtain ⟨no, qs⟩ := x
     go_region_held3 (fun w' => w'.cell? ⟨w.heap.size, 0, none⟩ = some (.string ⟨n.op.toArray⟩) ∧ w'.cell? ⟨w.heap.size, 1, none⟩ = some (.int .i64 n.int) ∧ w'.cell? ⟨w.heap.size, 2, none⟩ = some (.string ⟨n.text.toArray⟩) ∧ w'.cell? ⟨w.heap.size, 3, none⟩ = some (.int .i64 n.ty.kind) ∧ w'.cell? ⟨w.heap.size, 4, none⟩ = some (.slice A n.ty.args.length c) ∧ w'.cell? ⟨w.heap.size, 5, none⟩ = some (.slice (some ⟨kb, ko, none⟩) n.kids.length k) ∧ w'.cell? ⟨kb, ko + 2, none⟩ = some (.string ⟨kn.text.toArray⟩) ∧ w'.cell? ⟨w3.heap.size, 0, none⟩ = some (.int .i64 t.kind) ∧ w'.cell? ⟨w3.heap.size, 1, none⟩ = some (.slice A6 t.args.length k6))
      ((refine ⟨?_, ?_, ?_, ?_, ?_, ?_, ?_, ?_, ?_⟩ <;> (repeat' (first | with_reducible assumption | with_reducible refine zX ?_ | with_reducible refine cell_alloc2 ?_ ?_ | with_reducible refine cell_set_some ?_ ?_ | (show _ < w4.heap.size; omega) | (dsimp only; omega)))))
      (first | (go_at_call 94; refine HCN.out.mono ?_; rintro e w7 ⟨hno, AV7, rfl, hWI7, hWS7⟩; have HNO := Lib.hid hno; have HWI7 := Lib.hid hWI7; have HWS7 := Lib.hid hWS7; have hF := HFAR.out _ w7 AV7 HBZZ.out hWS7; clear hno hWI7 hWS7; have m0 : w7.cell? ⟨w.heap.size, 0, none⟩ = some (.string ⟨n.op.toArray⟩) := (World.cell?_of_block (hF.1 w.heap.size (by omega) (by omega) HNA.out)).trans n0; have m1 : w7.cell? ⟨w.heap.size, 1, none⟩ = some (.int .i64 n.int) := (World.cell?_of_block (hF.1 w.heap.size (by omega) (by omega) HNA.out)).trans n1; have m2 : w7.cell? ⟨w.heap.size, 2, none⟩ = some (.string ⟨n.text.toArray⟩) := (World.cell?_of_block (hF.1 w.heap.size (by omega) (by omega) HNA.out)).trans n2; have m3 : w7.cell? ⟨w.heap.size, 3, none⟩ = some (.int .i64 n.ty.kind) := (World.cell?_of_block (hF.1 w.heap.size (by omega) (by omega) HNA.out)).trans n3; have m4 : w7.cell? ⟨w.heap.size, 4, none⟩ = some (.slice A n.ty.args.length c) := (World.cell?_of_block (hF.1 w.heap.size (by omega) (by omega) HNA.out)).trans n4; have m5 : w7.cell? ⟨w.heap.size, 5, none⟩ = some (.slice (some ⟨kb, ko, none⟩) n.kids.length k) := (World.cell?_of_block (hF.1 w.heap.size (by omega) (by omega) HNA.out)).trans n5; have mk : w7.cell? ⟨kb, ko + 2, none⟩ = some (.string ⟨kn.text.toArray⟩) := (World.cell?_of_block (hF.1 kb (by omega) hkbW HKA.out)).trans k2; have md0 : w7.cell? ⟨w3.heap.size, 0, none⟩ = some (.int .i64 t.kind) := (World.cell?_of_block (hF.1 w3.heap.size (by omega) (by omega) HDA.out)).trans d0; have md1 : w7.cell? ⟨w3.heap.size, 1, none⟩ = some (.slice A6 t.args.length k6) := (World.cell?_of_block (hF.1 w3.heap.size (by omega) (by omega) HDA.out)).trans d1; have rr := (hF.1 (w.heap.size + 1) (by omega) (by omega) HRA.out).trans hr4; have q0 := zD (i := 0) rr rfl; have q1 := zD (i := 1) rr rfl; have qf0 := zI (i := 0) rr; have qf1 := zI (i := 1) rr; have hs7 := hF.2; clear hF rr))
     all_goals go_wp2_with (fail)
     have hsz := HBZ.out.size
     have HG7 : Hid (∀ g, AV7.ownBlock = some g → g ≠ w.heap.size + 1) := Lib.hid fun g hg => by
      rcases HWS7.out.own with e | e
      · rw [e] at hg
        have := (HO3.out g hg).2
        omega
      · have := e g hg
        omega
     have HST := Lib.hid (HWS.out.trans ((WkS.of_below (W := W) (AV := AV3) HBZ.out).trans HWS7.out))
     refine bodyPost_ret (v := .tuple #[.agg #[.int .i64 0, .slice none 0 0], .int .i64 no]) (by simp [results, Tryz.results58, go_sem, q0, q1]) rfl ?_
     rw [show bindR (.ok t) r2 = .error (no, qs) from HR2.out.symm]
     refine kid_err HW.out HWI7.out HST.out HNO.out HG7.out (fun b hb hn1 => ?_) (by simp [World.setCell]) ⟨rfl, rfl, rfl⟩
     rw [Below.heap_setCell _ _ _ _ (by show b ≠ w.heap.size + 1; exact hn1), Below.heap_setCell _ _ _ _ (by show b ≠ w.heap.size + 1; exact hn1)]
