import Derived.Test.YtaecndmncpfpfaaGreatDoorCh
import Derived.Deep.AppendLies
import Derived.IntWalk
import Derived.WalkSmall
namespace Go.Proofs.YtaecndmncpfpfaaGreatDoor
open Go.RowKit
def Fr (n W : Nat) (AV : Value) (k : Nat) : Prop := k < n ∧ k ≠ W ∧ some k ≠ AV.ownBlock
theorem infoI64 : (Tryz.prog.info? 3).map (fun i => (i.zero, i.size, i.bytes)) = some (some (.int .i64 0), 1, 8) := by kernel_rfl
structure WkI (w : World) (W : Nat) (P : Nat → Prop) (it : Ty) (sides : List Ty) (names : List (List UInt8 × Ty)) (NA : Option Addr) (nk : Nat) (AV : Value) (ps : List Int) : Prop where
 walk : ∃ d, WkAt w W P d it sides names NA nk AV
 sep : ∀ k, P k → Fr w.heap.size W AV k
 own : w.ownsRow (W + 1) 3 1 AV ps.length (ps.map fun p => .int .i64 p)
 glob : Knd.Glob w
 low : 0 < W
structure WkS (w w' : World) (W : Nat) (AV AV' : Value) : Prop where
 os : w'.os = w.os
 tape : w'.tape = w.tape
 output : w'.output = w.output
 size : w.heap.size ≤ w'.heap.size
 block : ∀ k, k < w.heap.size → k ≠ W → some k ≠ AV.ownBlock → w'.heap[k]? = w.heap[k]?
 own : AV'.ownBlock = AV.ownBlock ∨ ∀ g, AV'.ownBlock = some g → w.heap.size ≤ g
 box : ∀ a b c d, w.heap[W]? = some (.cells #[a, b, c, d, AV] 79 (0, 0)) → w'.heap[W]? = some (.cells #[a, b, c, d, AV'] 79 (0, 0))
theorem WkS.trans {w1 w2 w3 : World} {W : Nat} {A1 A2 A3 : Value} (h : WkS w1 w2 W A1 A2) (g : WkS w2 w3 W A2 A3) : WkS w1 w3 W A1 A3 :=
 ⟨g.os.trans h.os, g.tape.trans h.tape, g.output.trans h.output, Nat.le_trans h.size g.size,
  fun k hk hW hA => (g.block k (by have := h.size; omega) hW (fun e => by
   rcases h.own with h2 | h2
   · exact hA (e.trans h2)
   · have := h2 k e.symm; omega)).trans (h.block k hk hW hA),
  by
   rcases g.own with e | e
   · rw [e]; exact h.own
   · exact .inr fun b hb => Nat.le_trans h.size (e b hb),
  fun a b c d h0 => g.box a b c d (h.box a b c d h0)⟩
theorem WkS.of_below {w w' : World} {W : Nat} {AV : Value} (h : Below w.heap.size w w') : WkS w w' W AV AV := ⟨h.os, h.tape, h.output, h.size, fun k hk _ _ => h.block k hk, .inl rfl, fun _ _ _ _ h0 => (h.block W (zC h0)).trans h0⟩
theorem Fr.step {w w' : World} {W : Nat} {AV AV' : Value} (hs : WkS w w' W AV AV') {k : Nat} (h : Fr w.heap.size W AV k) : Fr w'.heap.size W AV' k ∧ w'.heap[k]? = w.heap[k]? :=
 ⟨⟨by have := hs.size; have := h.1; omega, h.2.1, fun e => by
  rcases hs.own with h2 | h2
  · exact h.2.2 (e.trans h2)
  · have := h2 k e.symm; have := h.1; omega⟩, hs.block k h.1 h.2.1 h.2.2⟩
theorem WkI.step2 {w w' : World} {W : Nat} {P : Nat → Prop} {it : Ty} {sides : List Ty} {names : List (List UInt8 × Ty)} {NA : Option Addr} {nk : Nat} {AV AV' : Value} {ps ps' : List Int} (h : WkI w W P it sides names NA nk AV ps) (kp : ∀ k, P k → w'.heap[k]? = w.heap[k]?) (hsep : ∀ k, P k → Fr w'.heap.size W AV' k) (hgl : Knd.Glob w')
    (hbox : ∀ a b c d, w.heap[W]? = some (.cells #[a, b, c, d, AV] 79 (0, 0)) → w'.heap[W]? = some (.cells #[a, b, c, d, AV'] 79 (0, 0))) (hown : w'.ownsRow (W + 1) 3 1 AV' ps'.length (ps'.map fun p => .int .i64 p)) : WkI w' W P it sides names NA nk AV' ps' := by
 obtain ⟨d, hW⟩ := h.walk
 obtain ⟨A, k, SA, sk, hb, hT, hS⟩ := hW.box
 refine ⟨⟨d, ⟨⟨A, k, SA, sk, hbox _ _ _ _ hb, hT.set kp, args_set hS kp⟩, fun hl => ?_, fun k hk => ⟨(hsep k hk).1, (hsep k hk).2.1⟩⟩⟩, hsep, hown, hgl, h.low⟩
 obtain ⟨b, o, e, hP, hc⟩ := hW.names hl
 have mv : ∀ {o : Nat} {v : Value}, w.cell? ⟨b, o, none⟩ = some v → w'.cell? ⟨b, o, none⟩ = some v := fun h => (World.cell?_of_block (kp b hP)).trans h
 refine ⟨b, o, e, hP, fun j x hx => ?_⟩
 obtain ⟨u0, u1, h0, h1, h2, h3⟩ := hc j x hx
 exact ⟨u0, u1, mv h0, mv h1, mv h2, h3.set kp⟩
theorem WkI.lt {w : World} {W : Nat} {P : Nat → Prop} {it : Ty} {sides : List Ty} {names : List (List UInt8 × Ty)} {NA : Option Addr} {nk : Nat} {AV : Value} {ps : List Int} (h : WkI w W P it sides names NA nk AV ps) : W < w.heap.size := by
 obtain ⟨d, hW⟩ := h.walk
 obtain ⟨A, k, SA, sk, hb, hT, hS⟩ := hW.box
 exact zC hb
theorem WkI.globK {w w' : World} {W : Nat} {P : Nat → Prop} {it : Ty} {sides : List Ty} {names : List (List UInt8 × Ty)} {NA : Option Addr} {nk : Nat} {AV AV' : Value} {ps : List Int} (h : WkI w W P it sides names NA nk AV ps) (hs : WkS w w' W AV AV') : Knd.Glob w' :=
 h.glob.kept (hs.block _ (by have := h.low; have := h.lt; omega) (by have := h.low; omega) (fun e => by have := (h.own.lt _ e.symm).1; have := h.low; omega))
theorem WkI.step {w w' : World} {W : Nat} {P : Nat → Prop} {it : Ty} {sides : List Ty} {names : List (List UInt8 × Ty)} {NA : Option Addr} {nk : Nat} {AV AV' : Value} {ps ps' : List Int} (h : WkI w W P it sides names NA nk AV ps) (hs : WkS w w' W AV AV')
    (hbox : ∀ a b c d, w.heap[W]? = some (.cells #[a, b, c, d, AV] 79 (0, 0)) → w'.heap[W]? = some (.cells #[a, b, c, d, AV'] 79 (0, 0))) (hown : w'.ownsRow (W + 1) 3 1 AV' ps'.length (ps'.map fun p => .int .i64 p)) : WkI w' W P it sides names NA nk AV' ps' :=
 h.step2 (fun k hk => ((h.sep k hk).step hs).2) (fun k hk => ((h.sep k hk).step hs).1) (h.globK hs) hbox hown
theorem set1_grown {w : World} {C o : Nat} {x : Value} : w.grownBy (w.setCell ⟨C, o, none⟩ x) (some C) :=
 ⟨rfl, rfl, rfl, by simp [World.setCell], fun k _ hne => by
  have hk : k ≠ C := fun e => hne (by rw [e])
  rw [Below.heap_setCell _ _ _ _ (by show k ≠ C; exact hk)]⟩
def InOut (w w' : World) (W : Nat) (P : Nat → Prop) (it : Ty) (sides : List Ty) (names : List (List UInt8 × Ty)) (NA : Option Addr) (nk : Nat) (AV : Value) (ps : List Int) (e : Ending) : Except (Int × List Int) Ty → Prop
 | .ok t => ∃ AV' v d, e = .returned (.tuple #[v, .int .i64 0]) ∧ TyAt w' (fun k => P k ∨ (w.heap.size ≤ k ∧ k < w'.heap.size ∧ some k ≠ AV'.ownBlock)) d v t ∧ WkI w' W P it sides names NA nk AV' ps ∧ WkS w w' W AV AV'
 | .error (no, qs) => no ≠ 0 ∧ ∃ AV', e = .returned (.tuple #[.agg #[.int .i64 0, .slice none 0 0], .int .i64 no]) ∧ WkI w' W P it sides names NA nk AV' qs ∧ WkS w w' W AV AV'
theorem kid_end {w w9 w12 : World} {W : Nat} {P : Nat → Prop} {it : Ty} {sides : List Ty} {names : List (List UInt8 × Ty)} {NA : Option Addr} {nk n8 g9 cap9 k6 d9 : Nat} {A6 : Option Addr} {AV : Value} {ps : List Int} {p : Int} {t : Ty}
    (h0 : WkI w W P it sides names NA nk AV ps) (h9 : WkI w9 W P it sides names NA nk (.slice (some ⟨g9, 0, none⟩) (ps.length + 1) cap9) (ps ++ [p])) (hs : WkS w w9 W AV (.slice (some ⟨g9, 0, none⟩) (ps.length + 1) cap9))
    (hs8 : w.heap.size + 3 ≤ n8) (hs9 : n8 ≤ w9.heap.size) (hg9 : g9 < w.heap.size ∨ w.heap.size + 3 ≤ g9) (far : ∀ b, b < w9.heap.size → b ≠ W → b ≠ w.heap.size + 1 → w12.heap[b]? = w9.heap[b]?) (s12 : w9.heap.size ≤ w12.heap.size)
    (hbox : ∀ a b c d, w9.heap[W]? = some (.cells #[a, b, c, d, .slice (some ⟨g9, 0, none⟩) (ps.length + 1) cap9] 79 (0, 0)) → w12.heap[W]? = some (.cells #[a, b, c, d, .slice (some ⟨g9, 0, none⟩) ps.length cap9] 79 (0, 0))) (ho : w12.os = w9.os ∧ w12.output = w9.output ∧ w12.tape = w9.tape)
    (hT : TyAt w9 (fun k => P k ∨ (n8 ≤ k ∧ k < w9.heap.size ∧ some k ≠ (Value.slice (some ⟨g9, 0, none⟩) (ps.length + 1) cap9).ownBlock)) d9 (.agg #[.int .i64 t.kind, .slice A6 t.args.length k6]) t) :
    InOut w w12 W P it sides names NA nk AV ps (.returned (.tuple #[.agg #[.int .i64 t.kind, .slice A6 t.args.length k6], .int .i64 0])) (.ok t) := by
 have hWl := h0.lt
 have hown := h9.own
 have hP : ∀ k, P k → k < w.heap.size ∧ k ≠ W := fun k hk => ⟨(h0.sep k hk).1, (h0.sep k hk).2.1⟩
 have kp : ∀ k, P k → w12.heap[k]? = w9.heap[k]? := fun k hk => far k (by have := (hP k hk).1; omega) (hP k hk).2 (by have := (hP k hk).1; omega)
 have hgl := hown.lt g9 rfl
 rw [List.length_append, List.map_append] at hown
 have hpop := ownsRow_pop (n := ps.length) (xs := ps.map fun p => .int .i64 p) (last := [.int .i64 p]) (by simp) hown
 have hpop' : w12.ownsRow (W + 1) 3 1 (.slice (some ⟨g9, 0, none⟩) ps.length cap9) ps.length (ps.map fun p => .int .i64 p) := by
  refine ⟨hpop.1, hpop.2.imp id ?_⟩
  rintro ⟨g, c, cur, e, hb, hh, r⟩
  exact ⟨g, c, cur, e, hb, (far g (zC hh) (by omega) (fun e' => by injection e with e1 _ _; injection e1 with e1; injection e1 with e1; omega)).trans hh, r⟩
 refine ⟨.slice (some ⟨g9, 0, none⟩) ps.length cap9, _, d9, rfl, hT.move fun b hb _ => ?_, h9.step2 kp (fun k hk => ⟨by have := (hP k hk).1; omega, (hP k hk).2, (h9.sep k hk).2.2⟩) (h9.glob.kept (far _ (by have := h9.low; omega) (by have := h9.low; omega) (by have := h9.low; omega))) hbox hpop', ⟨ho.1.trans hs.os, ho.2.2.trans hs.tape, ho.2.1.trans hs.output, Nat.le_trans hs.size s12, fun k hk hW hA => (far k (by omega) hW (by omega)).trans (hs.block k hk hW hA), hs.own, fun a b c d h => hbox a b c d (hs.box a b c d h)⟩⟩
 rcases hb with hb | ⟨h1, h2, h3⟩
 · exact ⟨.inl hb, fun _ => World.cell?_of_block (kp b hb)⟩
 · exact ⟨.inr ⟨by omega, by omega, h3⟩, fun _ => World.cell?_of_block (far b h2 (by omega) (by omega))⟩
theorem kid_err {w w9 w12 : World} {W : Nat} {P : Nat → Prop} {it : Ty} {sides : List Ty} {names : List (List UInt8 × Ty)} {NA : Option Addr} {nk : Nat} {AV AV9 : Value} {ps qs : List Int} {no : Int}
    (h0 : WkI w W P it sides names NA nk AV ps) (h9 : WkI w9 W P it sides names NA nk AV9 qs) (hs : WkS w w9 W AV AV9) (hno : no ≠ 0)
    (hg9 : ∀ g, AV9.ownBlock = some g → g ≠ w.heap.size + 1) (far : ∀ b, b < w9.heap.size → b ≠ w.heap.size + 1 → w12.heap[b]? = w9.heap[b]?) (s12 : w9.heap.size ≤ w12.heap.size) (ho : w12.os = w9.os ∧ w12.output = w9.output ∧ w12.tape = w9.tape) :
    InOut w w12 W P it sides names NA nk AV ps (.returned (.tuple #[.agg #[.int .i64 0, .slice none 0 0], .int .i64 no])) (.error (no, qs)) := by
 have hWl := h0.lt
 have hW9 := h9.lt
 have hP : ∀ k, P k → k < w.heap.size ∧ k ≠ W := fun k hk => ⟨(h0.sep k hk).1, (h0.sep k hk).2.1⟩
 have hsz := hs.size
 have kp : ∀ k, P k → w12.heap[k]? = w9.heap[k]? := fun k hk => far k (by have := (hP k hk).1; omega) (by have := (hP k hk).1; omega)
 refine ⟨hno, AV9, rfl, h9.step2 kp (fun k hk => ⟨by have := (hP k hk).1; omega, (hP k hk).2, (h9.sep k hk).2.2⟩) (h9.glob.kept (far _ (by have := h9.low; omega) (by have := h9.low; omega))) (fun a b c d h => (far W (by omega) (by omega)).trans h) ⟨h9.own.1, h9.own.2.imp id ?_⟩, ⟨ho.1.trans hs.os, ho.2.2.trans hs.tape, ho.2.1.trans hs.output, Nat.le_trans hs.size s12, fun k hk hW hA => (far k (by omega) (by omega)).trans (hs.block k hk hW hA), hs.own, fun a b c d h => (far W (by omega) (by omega)).trans (hs.box a b c d h)⟩⟩
 rintro ⟨g, c, cur, e, hb, hh, r⟩
 exact ⟨g, c, cur, e, hb, (far g (zC hh) (hg9 g (by rw [e]; rfl))).trans hh, r⟩
set_option maxRecDepth 100000 in
set_option maxHeartbeats 1000000 in
theorem kid_any (W : Nat) (P S : Nat → Prop) (it : Ty) (sides : List Ty) (names : List (List UInt8 × Ty)) (NA : Option Addr) (nk : Nat) (AA : Option Addr) (ac : Nat) (ps : List Int) (nv : Value) (n : Nd) (dn : Nat) (place : Nat) (kn : Nd) (r : Except (Int × List Int) Ty) (w : World)
    (hW : WkI w W P it sides names NA nk (.slice AA ps.length ac) ps) (hps : ps.length ≤ 100) (hn : NdAt w S (dn + 1) nv n) (hk : n.kids[place]? = some kn) (hS : ∀ k, S k → Fr w.heap.size W (.slice AA ps.length ac) k)
    (hI : ∀ (kv : Value) (AA' : Option Addr) (ac' : Nat) (w1 : World), WkI w1 W P it sides names NA nk (.slice AA' (ps.length + 1) ac') (ps ++ [(place : Int)]) → NdAt w1 S dn kv kn → (∀ k, S k → Fr w1.heap.size W (.slice AA' (ps.length + 1) ac') k) →
      Calls Tryz.prog 33 #[.pointer (some ⟨W, 0, none⟩), kv] w1 fun e w2 => InOut w1 w2 W P it sides names NA nk (.slice AA' (ps.length + 1) ac') (ps ++ [(place : Int)]) e r) :
    Calls Tryz.prog 93 #[.pointer (some ⟨W, 0, none⟩), nv, .int .i64 place] w fun e w' => InOut w w' W P it sides names NA nk (.slice AA ps.length ac) ps e r := by
 obtain ⟨i0, hi, hq0, hq1, hq2⟩ := info_parts infoI64
 obtain ⟨A, c, K, k, rfl, _, hlk, hkc⟩ := hn
 have hpl : place < n.kids.length := (List.getElem?_eq_some_iff.1 hk).1
 obtain ⟨kb, ko, rfl, hSk, hkj⟩ := hkc (by omega)
 obtain ⟨u0, u1, u2, u3, u4, u5, h0, h1, h2, h3, h4, h5, hkid⟩ := hkj place kn hk
 have HKID := Lib.hid hkid
 clear hkj hk hkid
 obtain ⟨d, hWA⟩ := hW.walk
 obtain ⟨A1, k1, SA, sk, hb, hT, _⟩ := hWA.box
 have hl := zC hb
 have w4 := zD (i := 4) hb rfl
 have f4 := zI (i := 4) hb
 have HOW := Lib.hid hW.own
 have HW := Lib.hid hW
 have HI := Lib.hid hI
 have HS := Lib.hid hS
 have HB := Lib.hid hb
 clear hW hWA hT hb hI hkc
 obtain ⟨w2, hw2⟩ : ∃ w2, (w.alloc (.cells #[.string ⟨n.op.toArray⟩, .int .i64 n.int, .string ⟨n.text.toArray⟩, .int .i64 n.ty.kind, .slice A n.ty.args.length c, .slice (some ⟨kb, ko, none⟩) n.kids.length k] 41)).alloc (.cells #[.int .i64 0, .slice none 0 0] 34) = w2 := ⟨_, rfl⟩
 have hb2 : Below w.heap.size w w2 := by
  rw [← hw2]
  exact ((Below.refl w.heap.size w).alloc (Nat.le_refl _) _).alloc (by simp) _
 have h20 : w2.heap[w.heap.size]? = some (.cells #[.string ⟨n.op.toArray⟩, .int .i64 n.int, .string ⟨n.text.toArray⟩, .int .i64 n.ty.kind, .slice A n.ty.args.length c, .slice (some ⟨kb, ko, none⟩) n.kids.length k] 41 (0, 0)) := by
  rw [← hw2]
  exact (Below.heap_alloc _ _ _ (by simp)).trans (heap_alloc_new w _)
 have h21 : w2.heap[w.heap.size + 1]? = some (.cells #[.int .i64 0, .slice none 0 0] 34 (0, 0)) := by
  rw [← hw2]
  simpa using heap_alloc_new (w.alloc (.cells #[.string ⟨n.op.toArray⟩, .int .i64 n.int, .string ⟨n.text.toArray⟩, .int .i64 n.ty.kind, .slice A n.ty.args.length c, .slice (some ⟨kb, ko, none⟩) n.kids.length k] 41)) (.cells #[.int .i64 0, .slice none 0 0] 34)
 have hs2 : w2.heap.size = w.heap.size + 2 := by rw [← hw2]; simp
 have HO2 := Lib.hid (HOW.out.kept (row := none) ⟨hb2.os, hb2.tape, hb2.output, hb2.size, fun k hk _ => hb2.block k hk⟩ (by cases AA <;> simp [Value.ownBlock]))
 have v4 := (hb2.cell (p := ⟨W, 4, none⟩) hl).trans w4
 go_enter Tryz.func93, Tryz.ntmps93
 go_wp2_with (at_builtin; refine Hid.out ?_)
 refine Lib.hid ?_
 have hnews := World.news_of_block (cs := #[.int .i64 (place : Int)]) (t := 3) (fr := (0, 0)) (heap_alloc_new w2 (.cells #[.int .i64 (place : Int)] 3))
 rw [hs2] at hnews
 refine wpList_append_own_at _ rfl _ _ 35 rfl (W + 1) 3 i0 (.int .i64 0) 1 8 Tryz.underlying35 hi hq0 hq1 hq2 rfl (by decide) (.slice AA ps.length ac) ps.length (ps.map fun p => .int .i64 p) rfl (HO2.out.alloc _) ⟨w.heap.size + 2, 0, none⟩ 1 1 [.int .i64 (place : Int)] rfl rfl hnews (by simp [Value.oneCell']) (by unfold maxLen; omega) (by omega) (by simp; omega) ?_
 intro v' w7 hown7 hg7 _ hat7
 obtain ⟨gg, cap, rfl⟩ := ownsRow_succ hown7
 have hP7 := (hg7.block W (by simp; omega) (fun e => by have := (HOW.out.lt _ e.symm).1; omega)).trans ((Below.heap_alloc w2 _ W (by omega)).trans ((hb2.block W hl).trans HB.out))
 have y4 := zD (i := 4) hP7 rfl
 have yf := zI (i := 4) hP7
 have hs7 := hg7.size
 simp only [World.size_alloc] at hs7
 have hown_lt : ∀ g, (Value.slice AA ps.length ac).ownBlock = some g → W + 1 ≤ g ∧ g < w.heap.size := fun g e => HOW.out.lt g e
 have far7 : ∀ b, b < w2.heap.size → some b ≠ (Value.slice AA ps.length ac).ownBlock → w7.heap[b]? = w2.heap[b]? := fun b hb hne => (hg7.block b (by simp; omega) hne).trans (Below.heap_alloc w2 _ b hb)
 have e1 := (far7 w.heap.size (by omega) (fun e => by have := (hown_lt _ e.symm).2; omega)).trans h20
 have z5 := zD (i := 5) ((Below.heap_setCell w7 ⟨W, 4, none⟩ (.slice (some ⟨gg, 0, none⟩) (ps.length + 1) cap) w.heap.size (by show w.heap.size ≠ W; omega)).trans e1) rfl
 have hstep : WkS w (w7.setCell ⟨W, 4, none⟩ (.slice (some ⟨gg, 0, none⟩) (ps.length + 1) cap)) W (.slice AA ps.length ac) (.slice (some ⟨gg, 0, none⟩) (ps.length + 1) cap) :=
  ⟨hg7.os.trans hb2.os, hg7.tape.trans hb2.tape, hg7.output.trans hb2.output, by simp [World.setCell]; omega, fun k hk hW hA => (Below.heap_setCell w7 ⟨W, 4, none⟩ _ k (by show k ≠ W; exact hW)).trans ((far7 k (by omega) hA).trans (hb2.block k hk)),
   hat7.imp id fun e g h => (by rw [e] at h; injection h with h; simp at h; omega),
   fun a b c d h => (Bxs.set (vs := #[a, b, c, d, .slice AA ps.length ac]) ((far7 W (by omega) (fun e => by have := (hown_lt _ e.symm).1; omega)).trans ((hb2.block W hl).trans h)) 4 _)⟩
 have hr1 := (far7 (w.heap.size + 1) (by omega) (fun e => by have := (hown_lt _ e.symm).2; omega)).trans h21
 have hr8 := (Below.heap_setCell w7 ⟨W, 4, none⟩ (.slice (some ⟨gg, 0, none⟩) (ps.length + 1) cap) (w.heap.size + 1) (by show w.heap.size + 1 ≠ W; omega)).trans hr1
 have hown8 : (w7.setCell ⟨W, 4, none⟩ (.slice (some ⟨gg, 0, none⟩) (ps.length + 1) cap)).ownsRow (W + 1) 3 1 (.slice (some ⟨gg, 0, none⟩) (ps.length + 1) cap) (ps ++ [(place : Int)]).length ((ps ++ [(place : Int)]).map fun p => .int .i64 p) := by
  rw [List.length_append, List.map_append]
  exact hown7.kept (row := some W) set1_grown (.inr fun e => by have := (hown7.lt W e).1; omega)
 have HW8 := Lib.hid (HW.out.step (ps' := ps ++ [(place : Int)]) hstep (fun a b c d h => (Bxs.set (vs := #[a, b, c, d, .slice AA ps.length ac]) ((far7 W (by omega) (fun e => by have := (hown_lt _ e.symm).1; omega)).trans ((hb2.block W hl).trans h)) 4 _)) hown8)
 have hgg : gg < w.heap.size ∨ w.heap.size + 3 ≤ gg := hat7.elim (fun e => .inl (hown_lt gg (e ▸ rfl)).2) (fun e => .inr (by injection e with e; simp at e; omega))
 have kb8 : ∀ k, S k → (w7.setCell ⟨W, 4, none⟩ (.slice (some ⟨gg, 0, none⟩) (ps.length + 1) cap)).heap[k]? = w.heap[k]? := fun k hk => ((HS.out k hk).step hstep).2
 have c0 := (World.cell?_of_block (kb8 kb hSk)).trans h0
 have c1 := (World.cell?_of_block (kb8 kb hSk)).trans h1
 have c2 := (World.cell?_of_block (kb8 kb hSk)).trans h2
 have c3 := (World.cell?_of_block (kb8 kb hSk)).trans h3
 have c4 := (World.cell?_of_block (kb8 kb hSk)).trans h4
 have c5 := (World.cell?_of_block (kb8 kb hSk)).trans h5
 have HC := Lib.hid (HI.out (.agg #[u0, u1, u2, u3, u4, u5]) (some ⟨gg, 0, none⟩) cap _ HW8.out (HKID.out.move (fun b hb _ => ⟨hb, fun _ => World.cell?_of_block (kb8 b hb)⟩)) (fun k hk => ((HS.out k hk).step hstep).1))
 have HST := Lib.hid hstep
 have HR8 := Lib.hid hr8
 clear hw2 h0 h1 h2 h3 h4 h5 hstep hr1 hr8 hown8 hown7 hg7 hat7 hP7 e1 far7 h20 h21 kb8 hnews
 go_wp2_with (fail)
 refine HC.out.mono ?_
 rintro e w9 ho
 cases r with
 | ok t =>
   obtain ⟨AV9, v, d9, rfl, hT9, hWI, hWS⟩ := ho
   obtain ⟨A6, k6, rfl⟩ := hT9.form
   obtain ⟨g9, cap9, rfl⟩ := ownsRow_succ (by simpa using hWI.own)
   have hcap9 : ps.length + 1 ≤ cap9 := by
    have ho := hWI.own.2
    rw [show (ps ++ [(place : Int)]).length = ps.length + 1 by simp] at ho
    rcases ho with ⟨e, _⟩ | ⟨g', c', cur, hv, _, _, hn, _⟩
    · cases e
    · injection hv with _ _ hc
      omega
   obtain ⟨_, hW9⟩ := hWI.walk
   obtain ⟨B1, j1, B2, j2, hb9, _, _⟩ := hW9.box
   have hs8 : w.heap.size + 3 ≤ (w7.setCell ⟨W, 4, none⟩ (.slice (some ⟨gg, 0, none⟩) (ps.length + 1) cap)).heap.size := by simp [World.setCell]; omega
   have hs9 := hWS.size
   have hr9 := (hWS.block (w.heap.size + 1) (by omega) (by omega) (fun e => by simp [Value.ownBlock] at e; omega)).trans HR8.out
   have hb10 := (Below.heap_alloc w9 (.cells #[.int .i64 t.kind, .slice A6 t.args.length k6] 34) W (zC hb9)).trans hb9
   have hr10 := (Below.heap_alloc w9 (.cells #[.int .i64 t.kind, .slice A6 t.args.length k6] 34) _ (zC hr9)).trans hr9
   have hn10 := heap_alloc_new w9 (.cells #[.int .i64 t.kind, .slice A6 t.args.length k6] 34)
   have a4 : (w9.alloc (.cells #[.int .i64 t.kind, .slice A6 t.args.length k6] 34)).cell? ⟨W, 4, none⟩ = some (.slice (some ⟨g9, 0, none⟩) (ps.length + 1) cap9) := zD (i := 4) hb10 rfl
   have a4d := zX a4
   have af4 := zI (i := 4) hb10
   have hW0 := Lib.hid (HST.out.trans hWS)
   have hg9 : g9 < w.heap.size ∨ w.heap.size + 3 ≤ g9 := by
    rcases hWS.own with e | e
    · have e' : g9 = gg := by simpa [Value.ownBlock] using e
      rw [e']
      exact hgg
    · have := e g9 rfl
      exact .inr (by omega)
   have HT9 := Lib.hid hT9
   have HWI := Lib.hid hWI
   have HB9 := Lib.hid hb9
   have HR9 := Lib.hid hr9
   have HR10 := Lib.hid hr10
   have HN10 := Lib.hid hn10
   clear hT9 hWI hWS hW9 hb9 hr9 hb10 hr10 hn10
   have l1 : (0 : Int) ≤ (ps.length : Int) := by omega
   have l2 : (ps.length : Int) ≤ (cap9 : Int) := by omega
   have l3 : IntKind.i64.wrap (ps.length : Int) = (ps.length : Int) := IntWalk.i64_in _ (by omega)
   have l4 : IntKind.i64.wrap ((ps.length : Int) + 1 - 1) = (ps.length : Int) := by rw [show ((ps.length : Int) + 1 - 1) = ps.length by omega, l3]
   go_upto_region 4 with (fail)
   go_region_law (fail)
   all_goals (
    have far11 : ∀ b, b < w9.heap.size → b ≠ W → (((w9.alloc (.cells #[.int .i64 t.kind, .slice A6 t.args.length k6] 34)).setCell ⟨W, 4, none⟩ (.slice (some ⟨g9, 0, none⟩) ps.length cap9)).drew).heap[b]? = w9.heap[b]? := fun b hb hne => (Below.heap_setCell _ ⟨W, 4, none⟩ _ b (by show b ≠ W; exact hne)).trans (Below.heap_alloc w9 _ b hb)
    have n11 : (((w9.alloc (.cells #[.int .i64 t.kind, .slice A6 t.args.length k6] 34)).setCell ⟨W, 4, none⟩ (.slice (some ⟨g9, 0, none⟩) ps.length cap9)).drew).heap[w9.heap.size]? = some (.cells #[.int .i64 t.kind, .slice A6 t.args.length k6] 34 (0, 0)) := (Below.heap_setCell _ ⟨W, 4, none⟩ _ _ (by show w9.heap.size ≠ W; omega)).trans HN10.out
    have r11 : (((w9.alloc (.cells #[.int .i64 t.kind, .slice A6 t.args.length k6] 34)).setCell ⟨W, 4, none⟩ (.slice (some ⟨g9, 0, none⟩) ps.length cap9)).drew).heap[w.heap.size + 1]? = some (.cells #[.int .i64 0, .slice none 0 0] 34 (0, 0)) := (far11 _ (by omega) (by omega)).trans HR9.out
    have W11 : ∀ a b c d, w9.heap[W]? = some (.cells #[a, b, c, d, .slice (some ⟨g9, 0, none⟩) (ps.length + 1) cap9] 79 (0, 0)) → (((w9.alloc (.cells #[.int .i64 t.kind, .slice A6 t.args.length k6] 34)).setCell ⟨W, 4, none⟩ (.slice (some ⟨g9, 0, none⟩) ps.length cap9)).drew).heap[W]? = some (.cells #[a, b, c, d, .slice (some ⟨g9, 0, none⟩) ps.length cap9] 79 (0, 0)) := fun a b c d h => Bxs.set (vs := #[a, b, c, d, .slice (some ⟨g9, 0, none⟩) (ps.length + 1) cap9]) ((Below.heap_alloc w9 _ W (by omega)).trans h) 4 _
    have s11 : w9.heap.size ≤ (((w9.alloc (.cells #[.int .i64 t.kind, .slice A6 t.args.length k6] 34)).setCell ⟨W, 4, none⟩ (.slice (some ⟨g9, 0, none⟩) ps.length cap9)).drew).heap.size := by simp [World.setCell, World.drew]
    have o11 : (((w9.alloc (.cells #[.int .i64 t.kind, .slice A6 t.args.length k6] 34)).setCell ⟨W, 4, none⟩ (.slice (some ⟨g9, 0, none⟩) ps.length cap9)).drew).os = w9.os ∧ (((w9.alloc (.cells #[.int .i64 t.kind, .slice A6 t.args.length k6] 34)).setCell ⟨W, 4, none⟩ (.slice (some ⟨g9, 0, none⟩) ps.length cap9)).drew).output = w9.output ∧ (((w9.alloc (.cells #[.int .i64 t.kind, .slice A6 t.args.length k6] 34)).setCell ⟨W, 4, none⟩ (.slice (some ⟨g9, 0, none⟩) ps.length cap9)).drew).tape = w9.tape := ⟨rfl, rfl, rfl⟩
    generalize ((w9.alloc (.cells #[.int .i64 t.kind, .slice A6 t.args.length k6] 34)).setCell ⟨W, 4, none⟩ (.slice (some ⟨g9, 0, none⟩) ps.length cap9)).drew = w11 at *
    have q0 := zD (i := 0) n11 rfl
    have q1 := zD (i := 1) n11 rfl
    have x0 := zD (i := 0) r11 rfl
    have x1 := zD (i := 1) r11 rfl
    have xf0 := zI (i := 0) r11
    have xf1 := zI (i := 1) r11
    clear a4 af4 a4d
    go_wp2_with (fail))
   all_goals (
    have far12 : ∀ b, b < w9.heap.size → b ≠ W → b ≠ w.heap.size + 1 → ((w11.setCell ⟨w.heap.size + 1, 0, none⟩ (.int .i64 t.kind)).setCell ⟨w.heap.size + 1, 1, none⟩ (.slice A6 t.args.length k6)).heap[b]? = w9.heap[b]? := fun b hb hne hn1 => by
     rw [Below.heap_setCell _ _ _ _ (by show b ≠ w.heap.size + 1; exact hn1), Below.heap_setCell _ _ _ _ (by show b ≠ w.heap.size + 1; exact hn1)]
     exact far11 b hb hne
    have s12 : w9.heap.size ≤ ((w11.setCell ⟨w.heap.size + 1, 0, none⟩ (.int .i64 t.kind)).setCell ⟨w.heap.size + 1, 1, none⟩ (.slice A6 t.args.length k6)).heap.size := by simpa [World.setCell] using s11
    have W12 : ∀ a b c d, w9.heap[W]? = some (.cells #[a, b, c, d, .slice (some ⟨g9, 0, none⟩) (ps.length + 1) cap9] 79 (0, 0)) → ((w11.setCell ⟨w.heap.size + 1, 0, none⟩ (.int .i64 t.kind)).setCell ⟨w.heap.size + 1, 1, none⟩ (.slice A6 t.args.length k6)).heap[W]? = some (.cells #[a, b, c, d, .slice (some ⟨g9, 0, none⟩) ps.length cap9] 79 (0, 0)) := fun a b c d h => by
     rw [Below.heap_setCell _ _ _ _ (by show W ≠ w.heap.size + 1; omega), Below.heap_setCell _ _ _ _ (by show W ≠ w.heap.size + 1; omega)]
     exact W11 a b c d h
    refine bodyPost_ret (v := .tuple #[.agg #[.int .i64 t.kind, .slice A6 t.args.length k6], .int .i64 0]) (by simp [results, Tryz.results93, go_sem, x0, x1]) rfl ?_
    have o12 : ((w11.setCell ⟨w.heap.size + 1, 0, none⟩ (.int .i64 t.kind)).setCell ⟨w.heap.size + 1, 1, none⟩ (.slice A6 t.args.length k6)).os = w11.os ∧ ((w11.setCell ⟨w.heap.size + 1, 0, none⟩ (.int .i64 t.kind)).setCell ⟨w.heap.size + 1, 1, none⟩ (.slice A6 t.args.length k6)).output = w11.output ∧ ((w11.setCell ⟨w.heap.size + 1, 0, none⟩ (.int .i64 t.kind)).setCell ⟨w.heap.size + 1, 1, none⟩ (.slice A6 t.args.length k6)).tape = w11.tape := ⟨rfl, rfl, rfl⟩
    generalize (w11.setCell ⟨w.heap.size + 1, 0, none⟩ (.int .i64 t.kind)).setCell ⟨w.heap.size + 1, 1, none⟩ (.slice A6 t.args.length k6) = w12 at *
    exact kid_end HW.out HWI.out hW0.out hs8 hs9 hg9 far12 s12 W12 ⟨o12.1.trans o11.1, o12.2.1.trans o11.2.1, o12.2.2.trans o11.2.2⟩ HT9.out)
 | error x =>
   obtain ⟨no, qs⟩ := x
   obtain ⟨hno, AV9, rfl, hWI, hWS⟩ := ho
   have hs8 : w.heap.size + 3 ≤ (w7.setCell ⟨W, 4, none⟩ (.slice (some ⟨gg, 0, none⟩) (ps.length + 1) cap)).heap.size := by simp [World.setCell]; omega
   have hs9 := hWS.size
   have hr9 := (hWS.block (w.heap.size + 1) (by omega) (by omega) (fun e => by simp [Value.ownBlock] at e; omega)).trans HR8.out
   have hr10 := (Below.heap_alloc w9 (.cells #[.int .i64 0, .slice none 0 0] 34) _ (zC hr9)).trans hr9
   have x0 := zD (i := 0) hr10 rfl
   have x1 := zD (i := 1) hr10 rfl
   have xf0 := zI (i := 0) hr10
   have xf1 := zI (i := 1) hr10
   have hW0 := Lib.hid (HST.out.trans hWS)
   have HWI := Lib.hid hWI
   have HR9 := Lib.hid hr9
   have hg9 : ∀ g, AV9.ownBlock = some g → g ≠ w.heap.size + 1 := fun g hg => by
    rcases hWS.own with e | e
    · rw [e] at hg
      have : gg = g := by simpa [Value.ownBlock] using hg
      omega
    · have := e g hg
      omega
   have hno' : (no == 0) = false := by simp [hno]
   clear hWI hWS hr9
   go_wp2_with (fail)
   refine bodyPost_ret (v := .tuple #[.agg #[.int .i64 0, .slice none 0 0], .int .i64 no]) (by simp [results, Tryz.results93, go_sem, x0, x1]) rfl ?_
   refine kid_err HW.out HWI.out hW0.out hno hg9 (fun b hb hn1 => ?_) (by simp [World.setCell]) ⟨rfl, rfl, rfl⟩
   rw [Below.heap_setCell _ _ _ _ (by show b ≠ w.heap.size + 1; exact hn1), Below.heap_setCell _ _ _ _ (by show b ≠ w.heap.size + 1; exact hn1)]
   exact Below.heap_alloc w9 _ b hb
end Go.Proofs.YtaecndmncpfpfaaGreatDoor
namespace Go.Proofs.YtaecndmncpfpfaaGreatDoor
open Go.RowKit
def yC (f : Nat → Except (Int × List Int) Ty) : Nat → Nat → Except (Int × List Int) (List Ty)
 | 0, _ => .ok []
 | m + 1, i => match f i with
   | .error x => .error x
   | .ok t => match yC f m (i + 1) with
     | .error x => .error x
     | .ok ts => .ok (t :: ts)
structure KdI (w wr : World) (W : Nat) (P : Nat → Prop) (it : Ty) (sides : List Ty) (names : List (List UInt8 × Ty)) (NA : Option Addr) (nk : Nat) (AV AVr : Value) (ps : List Int) (NB : Array Value) (many : Nat) (cs : List Value) (ts : List Ty) : Prop where
 step : WkS w wr W AV AVr
 walk : WkI wr W P it sides names NA nk AVr ps
 size : w.heap.size + 2 ≤ wr.heap.size
 nbox : wr.heap[w.heap.size]? = some (.cells NB 41 (0, 0))
 tbl : wr.heap[w.heap.size + 1]? = some (.cells cs.toArray 34 (0, 0))
 len : cs.length = many * 2
 own : ∀ g, AVr.ownBlock = some g → g < w.heap.size ∨ w.heap.size + 2 ≤ g
 args : ∃ D, ∀ (i : Nat) (a : Ty), ts[i]? = some a → ∃ u0 u1, cs[i * 2]? = some u0 ∧ cs[i * 2 + 1]? = some u1 ∧ TyAt wr (fun k => P k ∨ (w.heap.size + 2 ≤ k ∧ k < wr.heap.size ∧ some k ≠ AVr.ownBlock)) D (.agg #[u0, u1]) a
theorem KdI.next {w wr w3 : World} {W : Nat} {P : Nat → Prop} {it : Ty} {sides : List Ty} {names : List (List UInt8 × Ty)} {NA : Option Addr} {nk : Nat} {AV AVr AV3 : Value} {ps : List Int} {NB : Array Value} {many d : Nat} {cs : List Value} {ts : List Ty} {t : Ty} {u0 u1 : Value} {o : Obj}
    (h : KdI w wr W P it sides names NA nk AV AVr ps NB many cs ts) (hW : W < w.heap.size) (hP : ∀ k, P k → k < w.heap.size ∧ k ≠ W) (hj : ts.length < many)
    (hT : TyAt w3 (fun k => P k ∨ (wr.heap.size ≤ k ∧ k < w3.heap.size ∧ some k ≠ AV3.ownBlock)) d (.agg #[u0, u1]) t) (hI : WkI w3 W P it sides names NA nk AV3 ps) (hs : WkS wr w3 W AVr AV3) :
    KdI w (((w3.alloc o).setCell ⟨w.heap.size + 1, ts.length * 2, none⟩ u0).setCell ⟨w.heap.size + 1, ts.length * 2 + 1, none⟩ u1) W P it sides names NA nk AV AV3 ps NB many ((cs.set (ts.length * 2) u0).set (ts.length * 2 + 1) u1) (ts ++ [t]) := by
 have hsz := h.size
 have hs3 := hs.size
 have hcl := h.len
 have hst := h.step.trans hs
 obtain ⟨D, hD⟩ := h.args
 have far : ∀ b, b < w3.heap.size → b ≠ w.heap.size + 1 → (((w3.alloc o).setCell ⟨w.heap.size + 1, ts.length * 2, none⟩ u0).setCell ⟨w.heap.size + 1, ts.length * 2 + 1, none⟩ u1).heap[b]? = w3.heap[b]? := fun b hb hne => by
  rw [Below.heap_setCell _ _ _ _ (by show b ≠ w.heap.size + 1; exact hne), Below.heap_setCell _ _ _ _ (by show b ≠ w.heap.size + 1; exact hne)]
  exact Below.heap_alloc w3 o b hb
 have s5 : w3.heap.size ≤ (((w3.alloc o).setCell ⟨w.heap.size + 1, ts.length * 2, none⟩ u0).setCell ⟨w.heap.size + 1, ts.length * 2 + 1, none⟩ u1).heap.size := by simp [World.setCell]
 have ow3 : ∀ g, AV3.ownBlock = some g → g < w.heap.size ∨ w.heap.size + 2 ≤ g := fun g hg => by
  rcases hs.own with e | e
  · exact h.own g (e ▸ hg)
  · have := e g hg; exact .inr (by omega)
 have kp : ∀ k, P k → (((w3.alloc o).setCell ⟨w.heap.size + 1, ts.length * 2, none⟩ u0).setCell ⟨w.heap.size + 1, ts.length * 2 + 1, none⟩ u1).heap[k]? = w3.heap[k]? := fun k hk => far k (by have := (hP k hk).1; omega) (by have := (hP k hk).1; omega)
 have tb3 : w3.heap[w.heap.size + 1]? = some (.cells cs.toArray 34 (0, 0)) := (hs.block _ (by omega) (by omega) (fun e => by have := h.own _ e.symm; omega)).trans h.tbl
 have tb4 : Bxs (w3.alloc o) (w.heap.size + 1) 34 cs.toArray := (Below.heap_alloc w3 o _ (by omega)).trans tb3
 refine ⟨⟨hst.os, hst.tape, hst.output, Nat.le_trans hst.size s5, fun k hk hW hA => (far k (by omega) (by omega)).trans (hst.block k hk hW hA), hst.own, fun a b c d h => (far W (by omega) (by omega)).trans (hst.box a b c d h)⟩,
  hI.step2 kp (fun k hk => ⟨by have := (hP k hk).1; omega, (hP k hk).2, (hI.sep k hk).2.2⟩) (hI.glob.kept (far _ (by have := hI.low; omega) (by have := hI.low; omega))) (fun a b c d h => (far W (by omega) (by omega)).trans h) ⟨hI.own.1, hI.own.2.imp id ?_⟩,
  by omega, (far _ (by omega) (by omega)).trans ((hs.block _ (by omega) (by omega) (fun e => by have := h.own _ e.symm; omega)).trans h.nbox), ?_, by simp [hcl], ow3, ⟨max D d, fun i a hi => ?_⟩⟩
 · rintro ⟨g, c, cur, e, hb, hh, r⟩
   exact ⟨g, c, cur, e, hb, (far g (zC hh) (by have := ow3 g (by rw [e]; rfl); omega)).trans hh, r⟩
 · have := (tb4.set (ts.length * 2) u0).set (ts.length * 2 + 1) u1
   simpa [Bxs] using this
 · rcases Nat.lt_or_ge i ts.length with hlt | hge
   · rw [List.getElem?_append_left hlt] at hi
     obtain ⟨x0, x1, e0, e1, e2⟩ := hD i a hi
     refine ⟨x0, x1, ?_, ?_, (ty_more _ _ (Nat.le_max_left D d) e2).move fun k hk _ => ?_⟩
     · rw [List.getElem?_set_ne (by omega), List.getElem?_set_ne (by omega)]; exact e0
     · rw [List.getElem?_set_ne (by omega), List.getElem?_set_ne (by omega)]; exact e1
     · rcases hk with hk | ⟨k1, k2, k3⟩
       · exact ⟨.inl hk, fun _ => World.cell?_of_block ((kp k hk).trans (hs.block k (by have := (hP k hk).1; omega) (hP k hk).2 (h.walk.sep k hk).2.2))⟩
       · have hf : Fr wr.heap.size W AVr k := ⟨k2, by omega, k3⟩
         exact ⟨.inr ⟨k1, by have := (hf.step hs).1.1; omega, (hf.step hs).1.2.2⟩, fun _ => World.cell?_of_block ((far k (hf.step hs).1.1 (by omega)).trans (hf.step hs).2)⟩
   · have hlen := (List.getElem?_eq_some_iff.1 hi).1
     rw [List.length_append] at hlen
     obtain rfl : i = ts.length := by simp at hlen; omega
     rw [List.getElem?_concat_length] at hi
     injection hi with hi
     subst hi
     refine ⟨u0, u1, ?_, ?_, (ty_more _ _ (Nat.le_max_right D d) hT).move fun k hk _ => ?_⟩
     · rw [List.getElem?_set_ne (by omega), List.getElem?_set_self (by omega)]
     · rw [List.getElem?_set_self (by rw [List.length_set]; omega)]
     · rcases hk with hk | ⟨k1, k2, k3⟩
       · exact ⟨.inl hk, fun _ => World.cell?_of_block (kp k hk)⟩
       · exact ⟨.inr ⟨by omega, by omega, k3⟩, fun _ => World.cell?_of_block (far k k2 (by omega))⟩
theorem WkI.alloc {w : World} {W : Nat} {P : Nat → Prop} {it : Ty} {sides : List Ty} {names : List (List UInt8 × Ty)} {NA : Option Addr} {nk : Nat} {AV : Value} {ps : List Int} (h : WkI w W P it sides names NA nk AV ps) (o : Obj) : WkI (w.alloc o) W P it sides names NA nk AV ps :=
 h.step (WkS.of_below ((Below.refl _ w).alloc (Nat.le_refl _) _)) (fun _ _ _ _ hb => (Below.heap_alloc w o W h.lt).trans hb) (h.own.kept (row := none) (World.grownBy_alloc w o none) (Classical.em _))
def KsOut (w w' : World) (W : Nat) (P : Nat → Prop) (it : Ty) (sides : List Ty) (names : List (List UInt8 × Ty)) (NA : Option Addr) (nk : Nat) (AV : Value) (ps : List Int) (many : Nat) (e : Ending) : Except (Int × List Int) (List Ty) → Prop
 | .ok ts => ∃ AV' NB cs, e = .returned (.tuple #[.slice (some ⟨w.heap.size + 1, 0, none⟩) many many, .int .i64 0]) ∧ ts.length = many ∧ KdI w w' W P it sides names NA nk AV AV' ps NB many cs ts
 | .error (no, qs) => no ≠ 0 ∧ ∃ AV', e = .returned (.tuple #[.slice none 0 0, .int .i64 no]) ∧ WkI w' W P it sides names NA nk AV' qs ∧ WkS w w' W AV AV'
set_option maxRecDepth 100000 in
set_option maxHeartbeats 1000000 in
theorem ckids_any (W : Nat) (P S : Nat → Prop) (it : Ty) (sides : List Ty) (names : List (List UInt8 × Ty)) (NA : Option Addr) (nk : Nat) (AV : Value) (ps : List Int) (nv : Value) (n : Nd) (dn many : Nat) (f : Nat → Except (Int × List Int) Ty) (w : World)
    (hW : WkI w W P it sides names NA nk AV ps) (hm : many ≤ 64) (hn : NdAt w S (dn + 1) nv n) (hS : ∀ k, S k → Fr w.heap.size W AV k)
    (hK : ∀ (i : Nat) (AV' : Value) (w1 : World), i < many → WkI w1 W P it sides names NA nk AV' ps → NdAt w1 S (dn + 1) nv n → (∀ k, S k → Fr w1.heap.size W AV' k) →
      Calls Tryz.prog 93 #[.pointer (some ⟨W, 0, none⟩), nv, .int .i64 i] w1 fun e w2 => InOut w1 w2 W P it sides names NA nk AV' ps e (f i)) :
    Calls Tryz.prog 61 #[.pointer (some ⟨W, 0, none⟩), nv, .int .i64 many] w fun e w' => KsOut w w' W P it sides names NA nk AV ps many e (yC f many 0) := by
 have HN := Lib.hid hn
 obtain ⟨A, c, K, k, rfl⟩ := hn.form
 have hWl := hW.lt
 have HW := Lib.hid hW
 have HK := Lib.hid hK
 have HS := Lib.hid hS
 clear hW hK hS hn
 have l1 : (0 : Int) ≤ (many : Int) := by omega
 have l2 : (many : Int) ≤ 64 := by omega
 obtain ⟨i0, hi, hq0, hq1, hq2⟩ := info_parts Knd.info24
 have hmk := fun (W : World) => run_make (P := Tryz.prog) W 32 34 i0 _ Tryz.underlying32 hi hq0 .i64 .i64 (many : Int) (many : Int) (by omega) (by omega) (by rw [hq2]; omega) (by omega)
 simp only [Int.toNat_natCast, hq1] at hmk
 go_enter Tryz.func61, Tryz.ntmps61
 go_wp2_with (fail)
 generalize hRW : madeCells #[Value.int IntKind.i64 0, Value.slice none 0 0] (many * 2) = RW
 have hRWs : RW.size = many * 2 := by rw [← hRW, size_madeCells]
 clear hRW hmk
 obtain ⟨w2, hw2⟩ : ∃ w2, (w.alloc (.cells #[.string ⟨n.op.toArray⟩, .int .i64 n.int, .string ⟨n.text.toArray⟩, .int .i64 n.ty.kind, .slice A n.ty.args.length c, .slice K n.kids.length k] 41)).alloc (.cells RW 34) = w2 := ⟨_, rfl⟩
 have hb2 : Below w.heap.size w w2 := by
  rw [← hw2]
  exact ((Below.refl w.heap.size w).alloc (Nat.le_refl _) _).alloc (by simp) _
 have HST0 : Hid (WkS w w2 W AV AV) := WkS.of_below hb2
 have HI0 : Hid (KdI w w2 W P it sides names NA nk AV AV ps #[.string ⟨n.op.toArray⟩, .int .i64 n.int, .string ⟨n.text.toArray⟩, .int .i64 n.ty.kind, .slice A n.ty.args.length c, .slice K n.kids.length k] many RW.toList []) := by
  refine ⟨WkS.of_below hb2, HW.out.step (WkS.of_below hb2) (fun a b c d h => (hb2.block W hWl).trans h) (HW.out.own.kept (row := none) ⟨hb2.os, hb2.tape, hb2.output, hb2.size, fun k hk _ => hb2.block k hk⟩ (Classical.em _)), by rw [← hw2]; simp, ?_, ?_, by simpa using hRWs, fun g hg => .inl (HW.out.own.lt g hg).2, ⟨0, fun i a h => by simp at h⟩⟩
  · rw [← hw2]
    exact (Below.heap_alloc _ _ _ (by simp)).trans (heap_alloc_new w _)
  · rw [← hw2]
    simpa using heap_alloc_new (w.alloc (.cells #[.string ⟨n.op.toArray⟩, .int .i64 n.int, .string ⟨n.text.toArray⟩, .int .i64 n.ty.kind, .slice A n.ty.args.length c, .slice K n.kids.length k] 41)) (.cells RW 34)
 rw [hw2]
 clear hw2 hb2 HST0
 go_loopw [16] (fun iv wr => ∃ (cs : List Value) (ts : List Ty) (AVr : Value), iv = .int .i64 (ts.length : Int) ∧ ts.length ≤ many ∧ Hid (KdI w wr W P it sides names NA nk AV AVr ps #[.string ⟨n.op.toArray⟩, .int .i64 n.int, .string ⟨n.text.toArray⟩, .int .i64 n.ty.kind, .slice A n.ty.args.length c, .slice K n.kids.length k] many cs ts) ∧ Hid (yC f many 0 = match yC f (many - ts.length) ts.length with
  | .ok r => .ok (ts ++ r)
  | .error x => .error x)) (fun iv _ => 1000 - (intOf iv).toNat)
 case atStart =>
  refine ⟨_, [], AV, rfl, Nat.zero_le _, HI0, ?_⟩
  show _ = _
  simp only [List.length_nil, Nat.sub_zero, List.nil_append]
  cases yC f many 0 <;> rfl
 case round =>
  obtain ⟨cs, ts, AVr, rfl, hj, HI, HE⟩ := hrel
  obtain ⟨j, hjt⟩ : ∃ j, j = ts.length := ⟨_, rfl⟩
  rw [← hjt] at hj ⊢
  have HJ := Lib.hid hjt
  have hsr := HI.out.size
  clear hjt
  by_cases hlt : j < many
  · have hjl : ((j : Int) < (many : Int)) := by omega
    have n0 := HI.out.nbox
    have m0 := zD (i := 0) n0 rfl
    have m1 := zD (i := 1) n0 rfl
    have m2 := zD (i := 2) n0 rfl
    have m3 := zD (i := 3) n0 rfl
    have m4 := zD (i := 4) n0 rfl
    have m5 := zD (i := 5) n0 rfl
    clear n0
    have hWS0 := HI.out.step
    have HCK := Lib.hid (HK.out j AVr wr hlt HI.out.walk (HN.out.move fun b hb _ => ⟨hb, fun _ => World.cell?_of_block (((HS.out b hb).step hWS0).2)⟩) (fun k hk => ((HS.out k hk).step hWS0).1))
    clear hWS0
    go_wp2_with (fail)
    refine HCK.out.mono ?_
    rintro e w3 ho
    have hkr : yC f (many - j) j = match f j with
        | .error x => .error x
        | .ok t => match yC f (many - (j + 1)) (j + 1) with
          | .error x => .error x
          | .ok ts => .ok (t :: ts) := by
     rw [show many - j = (many - (j + 1)) + 1 by omega, yC]
    have HKR := Lib.hid hkr
    clear hkr HCK m0 m1 m2 m3 m4 m5
    cases hf : f j with
    | ok t =>
      rw [hf] at ho
      obtain ⟨AV3, v, d3, rfl, hT3, hWI, hWS⟩ := ho
      obtain ⟨A6, k6, rfl⟩ := hT3.form
      have HF := Lib.hid hf
      have hjs := HJ.out
      have hs3 := hWS.size
      have tb3 := (hWS.block (w.heap.size + 1) (by omega) (by omega) (fun e => by have := HI.out.own _ e.symm; omega)).trans HI.out.tbl
      have tb4 := (Below.heap_alloc w3 (.cells #[.int .i64 t.kind, .slice A6 t.args.length k6] 34) _ (by omega)).trans tb3
      have hcl := HI.out.len
      obtain ⟨z0, hz0⟩ : ∃ z, cs[j * 2]? = some z := ⟨_, List.getElem?_eq_getElem (by omega)⟩
      obtain ⟨z1, hz1⟩ : ∃ z, cs[j * 2 + 1]? = some z := ⟨_, List.getElem?_eq_getElem (by omega)⟩
      have p0 := zD (i := j * 2) tb4 (by simpa using hz0)
      have p1 := zD (i := j * 2 + 1) tb4 (by simpa using hz1)
      have p2 := zI (i := j * 2) tb4
      have p3 := zI (i := j * 2 + 1) tb4
      have HNX : Hid (KdI w _ W P it sides names NA nk AV AV3 ps _ many _ (ts ++ [t])) := HI.out.next (o := .cells #[.int .i64 t.kind, .slice A6 t.args.length k6] 34) hWl (fun k hk => ⟨(HW.out.sep k hk).1, (HW.out.sep k hk).2.1⟩) (by rw [← hjs]; exact hlt) hT3 hWI hWS
      rw [← hjs] at HNX
      clear hT3 hWI hWS tb3 tb4 hf hcl hz0 hz1 hjs
      go_wp2_with (fail)
      go_roundw
      case rel =>
       refine ⟨_, _, _, ?_, ?_, HNX, ?_⟩
       · rw [List.length_append, ← HJ.out]
         go_num
       · rw [List.length_append, ← HJ.out]
         simp; omega
       · show _ = _
         rw [HE.out, ← HJ.out, HKR.out, HF.out, List.length_append, ← HJ.out]
         simp only [List.length_singleton]
         cases yC f (many - (j + 1)) (j + 1) <;> simp
      case measure => simp [intOf]; omega
    | error x =>
      obtain ⟨no, qs⟩ := x
      rw [hf] at ho
      obtain ⟨hno, AV3, rfl, hWI, hWS⟩ := ho
      have HR : Hid (yC f many 0 = .error (no, qs)) := by
       show _ = _
       rw [HE.out, ← HJ.out, HKR.out, hf]
      have hno' : (no == 0) = false := by simp [hno]
      have HWI := Lib.hid hWI
      have HWS := Lib.hid (HI.out.step.trans hWS)
      clear hWI hWS hf
      go_wp2_with (fail)
      refine bodyPost_ret (v := .tuple #[.slice none 0 0, .int .i64 no]) (by simp [results, Tryz.results61, go_sem]) rfl ?_
      rw [HR.out]
      exact ⟨hno, AV3, rfl, HWI.out.alloc _, HWS.out.trans (WkS.of_below ((Below.refl _ w3).alloc (Nat.le_refl _) _))⟩
  · obtain rfl : j = many := by omega
    have hjl : ¬ ((j : Int) < (j : Int)) := by omega
    go_wp2_with (fail)
    refine bodyPost_ret (v := .tuple #[.slice (some ⟨w.heap.size + 1, 0, none⟩) j j, .int .i64 0]) (by simp [results, Tryz.results61, go_sem]) rfl ?_
    have hE : yC f j 0 = .ok ts := by
     rw [HE.out, ← HJ.out, Nat.sub_self]
     simp [yC]
    rw [hE]
    exact ⟨AVr, _, cs, rfl, HJ.out.symm, HI.out⟩
