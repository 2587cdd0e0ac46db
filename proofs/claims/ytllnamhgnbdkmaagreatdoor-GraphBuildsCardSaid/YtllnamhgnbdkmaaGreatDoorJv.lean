/-
Stage 11: readNode.
-/
import Derived.Test.YtllnamhgnbdkmaaGreatDoorJu
set_option linter.unusedVariables false
set_option linter.unusedSimpArgs false
namespace Go.Proofs.YtllnamhgnbdkmaaGreatDoor
open Go.RowKit Go.Shelf
theorem NdF.setIns1 {w W : World} {R P : Nat} {n : Gn} {IA SA A : Option Addr} {ic sc c : Nat} {l : List (List UInt8)} {f : Bool} (h : NdF w W R P n IA SA A ic sc c l f) {X : Option Addr} {v : Int} (hi : IntsAt W (fun b => w.heap.size + 2 ≤ b) (.slice X 1 1) [v]) : NdF w (W.setCell ⟨w.heap.size + 1, 1, none⟩ (.slice X 1 1)) R P { n with ins := [v] } X SA A 1 sc c l f := h.setIns (v := [v]) hi
def badP (p : List UInt8) : Bool := !(goodN p 999).isSome
set_option maxRecDepth 100000 in
theorem place_in {w0 : World} {w W : World} {R P : Nat} {n : Gn} {IA SA A : Option Addr} {ic sc c : Nat} {p : List UInt8} {l : List (List UInt8)} {f : Bool} (h : NdF w W R P n IA SA A ic sc c (p :: l) f) (hG : Gk w0) (hb : Below w0.heap.size w0 w) (hR : w0.heap.size ≤ R) (hp : p.length ≤ 1000000) :
    Calls Tryz.prog 105 #[.pointer (some ⟨R, 0, none⟩)] W fun e w' => (∃ X v, e = .returned (.slice X 1 1) ∧ (∀ x, goodN p 999 = some x → v = x) ∧ IntsAt w' (fun b => w.heap.size + 2 ≤ b) (.slice X 1 1) [v]) ∧ NdF w w' R P n IA SA A ic sc c l (f || badP p) := by
  refine (readPlace_any w0 W R P p l f hG (only_base hb hR h.rf.on) hR hp h.rf.rd).mono ?_
  rintro e w' ⟨⟨X, v, rfl, hv, hi⟩, hr, ho⟩
  have hbig := h.big
  exact ⟨⟨X, v, rfl, hv, hi.move fun b hb hl => ⟨by omega, hl, fun _ => rfl⟩⟩, h.call hr ho⟩
set_option maxRecDepth 100000 in
theorem sides_in {w0 : World} {w W : World} {R P : Nat} {n : Gn} {IA SA A : Option Addr} {ic sc c : Nat} {p : List UInt8} {l : List (List UInt8)} {f : Bool} {q : List UInt8 → Option (List Int)} (hq : PlacesOk q) (h : NdF w W R P n IA SA A ic sc c (p :: l) f) (hG : Gk w0) (hb : Below w0.heap.size w0 w) (hR : w0.heap.size ≤ R) (hp : p.length ≤ 1000000) :
    Calls Tryz.prog 106 #[.pointer (some ⟨R, 0, none⟩)] W fun e w' => (∃ X v xc, e = .returned (.slice X (v : List Int).length xc) ∧ (∀ x, f = false → sidesP q p = some x → v = x) ∧ IntsAt w' (fun b => w.heap.size + 2 ≤ b) (.slice X v.length xc) v) ∧ NdF w w' R P n IA SA A ic sc c l (f || !(sidesP q p).isSome) := by
  refine (readSides_any hq w0 W R P p l f hG (only_base hb hR h.rf.on) hR hp h.rf.rd).mono ?_
  rintro e w' ⟨⟨X, v, xc, rfl, hv, hi⟩, hr, ho⟩
  have hbig := h.big
  exact ⟨⟨X, v, xc, rfl, hv, hi.move fun b hb hl => ⟨by omega, hl, fun _ => rfl⟩⟩, h.call hr ho⟩
set_option maxRecDepth 100000 in
theorem text_in {w0 : World} {w W : World} {R P : Nat} {n : Gn} {IA SA A : Option Addr} {ic sc c : Nat} {p : List UInt8} {l : List (List UInt8)} {f : Bool} (h : NdF w W R P n IA SA A ic sc c (p :: l) f) (hG : Gk w0) (hb : Below w0.heap.size w0 w) (hR : w0.heap.size ≤ R) (hp : p.length ≤ 1000000) :
    Calls Tryz.prog 107 #[.pointer (some ⟨R, 0, none⟩)] W fun e w' => (e = .returned (.string ⟨p.toArray⟩)) ∧ NdF w w' R P n IA SA A ic sc c l (f || !isTx p) := by
  refine (readText_any W R P p l f hp h.rf.rd).mono ?_
  rintro e w' ⟨rfl, hr, ho⟩
  exact ⟨rfl, h.call hr ho⟩
set_option maxRecDepth 100000 in
theorem next_in {w0 : World} {w W : World} {R P : Nat} {n : Gn} {IA SA A : Option Addr} {ic sc c : Nat} {p : List UInt8} {l : List (List UInt8)} {f : Bool} (h : NdF w W R P n IA SA A ic sc c (p :: l) f) (hG : Gk w0) (hb : Below w0.heap.size w0 w) (hR : w0.heap.size ≤ R)  :
    Calls Tryz.prog 111 #[.pointer (some ⟨R, 0, none⟩)] W fun e w' => (e = .returned (.string ⟨p.toArray⟩)) ∧ NdF w w' R P n IA SA A ic sc c l (f) := by
  refine (next_any W R P p l f h.rf.rd).mono ?_
  rintro e w' ⟨rfl, hr, ho⟩
  exact ⟨rfl, h.call hr ho⟩
set_option maxRecDepth 100000 in
theorem type_in {w0 : World} {w W : World} {R P : Nat} {n : Gn} {IA SA A : Option Addr} {ic sc c : Nat} {p : List UInt8} {l : List (List UInt8)} {f : Bool} (h : NdF w W R P n IA SA A ic sc c (p :: l) f) (hG : Gk w0) (hb : Below w0.heap.size w0 w) (hR : w0.heap.size ≤ R) (hp : p.length ≤ 1000000) :
    Calls Tryz.prog 104 #[.pointer (some ⟨R, 0, none⟩)] W fun e w' => (∃ X t xc, e = .returned (.agg #[.int .i64 t.kind, .slice X t.args.length xc]) ∧ ReadTy p t ∧ TyAt w' (fun b => w.heap.size + 2 ≤ b) 6 (.agg #[.int .i64 t.kind, .slice X t.args.length xc]) t) ∧ NdF w w' R P n IA SA A ic sc c l (f || !(Knd.parseT p).2.isSome) := by
  refine (readType_any w0 W R P p l f hG (only_base hb hR h.rf.on) hR hp h.rf.rd).mono ?_
  rintro e w' ⟨⟨X, t, xc, rfl, hv, hi⟩, hr, ho⟩
  have hbig := h.big
  exact ⟨⟨X, t, xc, rfl, hv, TyAt.move (fun b hb hl => ⟨by omega, fun _ => rfl⟩) _ _ _ hi⟩, h.call hr ho⟩
set_option maxRecDepth 100000 in
theorem fn_in {w0 : World} {w W : World} {R P : Nat} {n : Gn} {IA SA A : Option Addr} {ic sc c : Nat} {p0 p1 p2 p3 : List UInt8} {l : List (List UInt8)} {f : Bool} (h : NdF w W R P n IA SA A ic sc c (p0 :: p1 :: p2 :: p3 :: l) f) (hG : Gk w0) (hb : Below w0.heap.size w0 w) (hR : w0.heap.size ≤ R) (hp0 : p0.length ≤ 1000000) (hp1 : p1.length ≤ 1000000) (hp2 : p2.length ≤ 1000000) (hp3 : p3.length ≤ 1000000) :
    Calls Tryz.prog 108 #[.pointer (some ⟨R, 0, none⟩)] W fun e w' => (∃ n0 n1 n2 n3, e = .returned (.agg #[.int .i64 n0, .int .i64 n1, .int .i64 n2, .int .i64 n3]) ∧ ReadN p0 n0 ∧ ReadN p1 n1 ∧ ReadN p2 n2 ∧ ReadN p3 n3) ∧ NdF w w' R P n IA SA A ic sc c l ((((f || badN p0) || badN p1) || badN p2) || badN p3) := by
  refine (readFn_any w0 W R P p0 p1 p2 p3 l f hG (only_base hb hR h.rf.on) hR hp0 hp1 hp2 hp3 h.rf.rd).mono ?_
  rintro e w' ⟨hv, hr, ho⟩
  exact ⟨hv, h.call hr ho⟩
set_option maxRecDepth 100000 in
theorem trig_in {w0 : World} {w W : World} {R P : Nat} {n : Gn} {IA SA A : Option Addr} {ic sc c : Nat} {p0 p1 p2 p3 : List UInt8} {l : List (List UInt8)} {f : Bool} (h : NdF w W R P n IA SA A ic sc c (p0 :: p1 :: p2 :: p3 :: l) f) (hG : Gk w0) (hb : Below w0.heap.size w0 w) (hR : w0.heap.size ≤ R) (hp0 : p0.length ≤ 1000000) (hp1 : p1.length ≤ 1000000) (hp2 : p2.length ≤ 1000000) :
    Calls Tryz.prog 109 #[.pointer (some ⟨R, 0, none⟩)] W fun e w' => (∃ n0 n1 n2 a, e = .returned (.agg #[.int .i64 n0, .int .i64 n1, .int .i64 n2, .bool a]) ∧ ReadN p0 n0 ∧ ReadN p1 n1 ∧ ReadN p2 n2 ∧ ∀ b, modeP p3 = some b → a = b) ∧ NdF w w' R P n IA SA A ic sc c l ((((f || badN p0) || badN p1) || badN p2) || !(modeP p3).isSome) := by
  refine (readTrig_any w0 W R P p0 p1 p2 p3 l f hG (only_base hb hR h.rf.on) hR hp0 hp1 hp2 h.rf.rd).mono ?_
  rintro e w' ⟨hv, hr, ho⟩
  exact ⟨hv, h.call hr ho⟩
set_option maxRecDepth 100000 in
theorem places_in {w0 : World} {w W : World} {R P : Nat} {n : Gn} {IA SA A : Option Addr} {ic sc c : Nat} {l : List (List UInt8)} {f : Bool} {q : List UInt8 → Option (List Int)} (hq : PlacesOk q) (s : List UInt8) (h : NdF w W R P n IA SA A ic sc c (l) f) (hG : Gk w0) (hb : Below w0.heap.size w0 w) (hR : w0.heap.size ≤ R) (hs : s.length ≤ 1000000) :
    Calls Tryz.prog 110 #[.pointer (some ⟨R, 0, none⟩), .string ⟨s.toArray⟩] W fun e w' => (∃ X v xc, e = .returned (.slice X (v : List Int).length xc) ∧ (∀ x, f = false → q s = some x → v = x) ∧ IntsAt w' (fun b => w.heap.size + 2 ≤ b) (.slice X v.length xc) v) ∧ NdF w w' R P n IA SA A ic sc c l (f || !(q s).isSome) := by
  refine (hq w0 W R P s l f hG (only_base hb hR h.rf.on) hR hs h.rf.rd).mono ?_
  rintro e w' ⟨⟨X, v, xc, rfl, hv, hi⟩, hr, ho⟩
  have hbig := h.big
  exact ⟨⟨X, v, xc, rfl, hv, hi.move fun b hb hl => ⟨by omega, hl, fun _ => rfl⟩⟩, h.call hr ho⟩
theorem set14 (z0 z1 z2 z3 z4 z5 z6 z7 z8 z9 z10 z11 z12 z13 a0 a1 a2 a3 a4 a5 a6 a7 a8 a9 a10 a11 a12 a13 : Value) : ((((((((((((((#[z0, z1, z2, z3, z4, z5, z6, z7, z8, z9, z10, z11, z12, z13].set! 0 a0).set! 1 a1).set! 2 a2).set! 3 a3).set! 4 a4).set! 5 a5).set! 6 a6).set! 7 a7).set! 8 a8).set! 9 a9).set! 10 a10).set! 11 a11).set! 12 a12).set! 13 a13) = #[a0, a1, a2, a3, a4, a5, a6, a7, a8, a9, a10, a11, a12, a13] := by simp
theorem NdF.told {w W : World} {R P : Nat} {n : Gn} {IA SA A : Option Addr} {ic sc c : Nat} {l : List (List UInt8)} {f : Bool} (h : NdF w W R P n IA SA A ic sc c l f) :
    (((((((((((((((W.setCell ⟨w.heap.size, 0, none⟩ (.int .i64 n.op)).setCell ⟨w.heap.size, 1, none⟩ (.slice IA n.ins.length ic)).setCell ⟨w.heap.size, 2, none⟩ (.slice SA n.side.length sc)).setCell ⟨w.heap.size, 3, none⟩ (.string ⟨n.text.toArray⟩)).setCell ⟨w.heap.size, 4, none⟩ (.int .i64 n.ty.kind)).setCell ⟨w.heap.size, 5, none⟩ (.slice A n.ty.args.length c)).setCell ⟨w.heap.size, 6, none⟩ (.int .i64 n.f0)).setCell ⟨w.heap.size, 7, none⟩ (.int .i64 n.f1)).setCell ⟨w.heap.size, 8, none⟩ (.int .i64 n.f2)).setCell ⟨w.heap.size, 9, none⟩ (.int .i64 n.f3)).setCell ⟨w.heap.size, 10, none⟩ (.int .i64 n.e)).setCell ⟨w.heap.size, 11, none⟩ (.int .i64 n.l)).setCell ⟨w.heap.size, 12, none⟩ (.int .i64 n.lt)).setCell ⟨w.heap.size, 13, none⟩ (.bool n.acc))).heap[w.heap.size]? = some (.cells #[.int .i64 n.op, .slice IA n.ins.length ic, .slice SA n.side.length sc, .string ⟨n.text.toArray⟩, .int .i64 n.ty.kind, .slice A n.ty.args.length c, .int .i64 n.f0, .int .i64 n.f1, .int .i64 n.f2, .int .i64 n.f3, .int .i64 n.e, .int .i64 n.l, .int .i64 n.lt, .bool n.acc] 83 (0, 0)) ∧ RdL (((((((((((((((W.setCell ⟨w.heap.size, 0, none⟩ (.int .i64 n.op)).setCell ⟨w.heap.size, 1, none⟩ (.slice IA n.ins.length ic)).setCell ⟨w.heap.size, 2, none⟩ (.slice SA n.side.length sc)).setCell ⟨w.heap.size, 3, none⟩ (.string ⟨n.text.toArray⟩)).setCell ⟨w.heap.size, 4, none⟩ (.int .i64 n.ty.kind)).setCell ⟨w.heap.size, 5, none⟩ (.slice A n.ty.args.length c)).setCell ⟨w.heap.size, 6, none⟩ (.int .i64 n.f0)).setCell ⟨w.heap.size, 7, none⟩ (.int .i64 n.f1)).setCell ⟨w.heap.size, 8, none⟩ (.int .i64 n.f2)).setCell ⟨w.heap.size, 9, none⟩ (.int .i64 n.f3)).setCell ⟨w.heap.size, 10, none⟩ (.int .i64 n.e)).setCell ⟨w.heap.size, 11, none⟩ (.int .i64 n.l)).setCell ⟨w.heap.size, 12, none⟩ (.int .i64 n.lt)).setCell ⟨w.heap.size, 13, none⟩ (.bool n.acc))) R P l f ∧ Only R w (((((((((((((((W.setCell ⟨w.heap.size, 0, none⟩ (.int .i64 n.op)).setCell ⟨w.heap.size, 1, none⟩ (.slice IA n.ins.length ic)).setCell ⟨w.heap.size, 2, none⟩ (.slice SA n.side.length sc)).setCell ⟨w.heap.size, 3, none⟩ (.string ⟨n.text.toArray⟩)).setCell ⟨w.heap.size, 4, none⟩ (.int .i64 n.ty.kind)).setCell ⟨w.heap.size, 5, none⟩ (.slice A n.ty.args.length c)).setCell ⟨w.heap.size, 6, none⟩ (.int .i64 n.f0)).setCell ⟨w.heap.size, 7, none⟩ (.int .i64 n.f1)).setCell ⟨w.heap.size, 8, none⟩ (.int .i64 n.f2)).setCell ⟨w.heap.size, 9, none⟩ (.int .i64 n.f3)).setCell ⟨w.heap.size, 10, none⟩ (.int .i64 n.e)).setCell ⟨w.heap.size, 11, none⟩ (.int .i64 n.l)).setCell ⟨w.heap.size, 12, none⟩ (.int .i64 n.lt)).setCell ⟨w.heap.size, 13, none⟩ (.bool n.acc))) ∧ GnAt (((((((((((((((W.setCell ⟨w.heap.size, 0, none⟩ (.int .i64 n.op)).setCell ⟨w.heap.size, 1, none⟩ (.slice IA n.ins.length ic)).setCell ⟨w.heap.size, 2, none⟩ (.slice SA n.side.length sc)).setCell ⟨w.heap.size, 3, none⟩ (.string ⟨n.text.toArray⟩)).setCell ⟨w.heap.size, 4, none⟩ (.int .i64 n.ty.kind)).setCell ⟨w.heap.size, 5, none⟩ (.slice A n.ty.args.length c)).setCell ⟨w.heap.size, 6, none⟩ (.int .i64 n.f0)).setCell ⟨w.heap.size, 7, none⟩ (.int .i64 n.f1)).setCell ⟨w.heap.size, 8, none⟩ (.int .i64 n.f2)).setCell ⟨w.heap.size, 9, none⟩ (.int .i64 n.f3)).setCell ⟨w.heap.size, 10, none⟩ (.int .i64 n.e)).setCell ⟨w.heap.size, 11, none⟩ (.int .i64 n.l)).setCell ⟨w.heap.size, 12, none⟩ (.int .i64 n.lt)).setCell ⟨w.heap.size, 13, none⟩ (.bool n.acc))) (fun b => w.heap.size ≤ b) 6 (n.val IA SA A ic sc c) n := by
  have ht := ((((((((((((((h.rf.told 0 (.int .i64 n.op)).told 1 (.slice IA n.ins.length ic)).told 2 (.slice SA n.side.length sc)).told 3 (.string ⟨n.text.toArray⟩)).told 4 (.int .i64 n.ty.kind)).told 5 (.slice A n.ty.args.length c)).told 6 (.int .i64 n.f0)).told 7 (.int .i64 n.f1)).told 8 (.int .i64 n.f2)).told 9 (.int .i64 n.f3)).told 10 (.int .i64 n.e)).told 11 (.int .i64 n.l)).told 12 (.int .i64 n.lt)).told 13 (.bool n.acc))
  rw [set14] at ht
  have hbig := h.big
  refine ⟨ht.bx, ht.rd, ht.on, IA, SA, A, ic, sc, c, rfl, ?_, ?_, ?_⟩
  · exact (ints_set (ints_set (ints_set (ints_set (ints_set (ints_set (ints_set (ints_set (ints_set (ints_set (ints_set (ints_set (ints_set (ints_set (h.i1) (fun b hb => by omega)) (fun b hb => by omega)) (fun b hb => by omega)) (fun b hb => by omega)) (fun b hb => by omega)) (fun b hb => by omega)) (fun b hb => by omega)) (fun b hb => by omega)) (fun b hb => by omega)) (fun b hb => by omega)) (fun b hb => by omega)) (fun b hb => by omega)) (fun b hb => by omega)) (fun b hb => by omega)).move fun b hb hl => ⟨by omega, hl, fun _ => rfl⟩
  · exact (ints_set (ints_set (ints_set (ints_set (ints_set (ints_set (ints_set (ints_set (ints_set (ints_set (ints_set (ints_set (ints_set (ints_set (h.i2) (fun b hb => by omega)) (fun b hb => by omega)) (fun b hb => by omega)) (fun b hb => by omega)) (fun b hb => by omega)) (fun b hb => by omega)) (fun b hb => by omega)) (fun b hb => by omega)) (fun b hb => by omega)) (fun b hb => by omega)) (fun b hb => by omega)) (fun b hb => by omega)) (fun b hb => by omega)) (fun b hb => by omega)).move fun b hb hl => ⟨by omega, hl, fun _ => rfl⟩
  · exact TyAt.move (fun b hb hl => ⟨by omega, fun _ => rfl⟩) _ _ _ (ty_set (ty_set (ty_set (ty_set (ty_set (ty_set (ty_set (ty_set (ty_set (ty_set (ty_set (ty_set (ty_set (ty_set (h.ty) (fun b hb => by omega)) (fun b hb => by omega)) (fun b hb => by omega)) (fun b hb => by omega)) (fun b hb => by omega)) (fun b hb => by omega)) (fun b hb => by omega)) (fun b hb => by omega)) (fun b hb => by omega)) (fun b hb => by omega)) (fun b hb => by omega)) (fun b hb => by omega)) (fun b hb => by omega)) (fun b hb => by omega))
def NodeOut (w w' : World) (R P : Nat) (e : Ending) (o : Option Gn) : Prop := (∃ n IA SA A ic sc c, e = .returned (Gn.val n IA SA A ic sc c) ∧ (∀ v, o = some v → n = v) ∧ GnAt w' (fun b => w.heap.size ≤ b) 6 (n.val IA SA A ic sc c) n) ∧ RdL w' R P [] (!o.isSome) ∧ Only R w w'
def gz (op : Int) : Gn := ⟨op, [], [], [], tyZ, 0, 0, 0, 0, 0, 0, 0, false⟩
def node1 (p0 : List UInt8) : Option Gn := match (Knd.parseT p0).2 with
  | some t => some { gz 1 with ty := t }
  | none => none
def node2 (q : List UInt8 → Option (List Int)) (p0 p1 p2 : List UInt8) : Option Gn := match goodN p0 999, sidesP q p1, isTx p2 with
  | some i, some s, true => some { gz 2 with ins := [i], side := s, text := p2 }
  | _, _, _ => none
def node3 (p0 p1 p2 p3 p4 : List UInt8) : Option Gn := match goodN p0 999, goodN p1 9999999, goodN p2 9999999, goodN p3 9999999, goodN p4 9999999 with
  | some i, some a, some b, some c, some d => some { gz 3 with ins := [i], f0 := a, f1 := b, f2 := c, f3 := d }
  | _, _, _, _, _ => none
def node4 (p0 p1 p2 p3 p4 p5 : List UInt8) : Option Gn := match goodN p0 999, goodN p1 9999999, goodN p2 9999999, goodN p3 9999999, modeP p4, isTx p5 with
  | some i, some a, some b, some c, some m, true => some { gz 4 with ins := [i], e := a, l := b, lt := c, acc := m, text := p5 }
  | _, _, _, _, _, _ => none
def node5 (q : List UInt8 → Option (List Int)) (p0 : List UInt8) : Option Gn := match q p0 with
  | some s => some { gz 5 with ins := s }
  | none => none
def node6 (p0 : List UInt8) : Option Gn := match goodN p0 999 with
  | some i => some { gz 6 with ins := [i] }
  | none => none
theorem results_node {fn : Func} {tm : Array Value} {W : World} {b : Nat} {v0 v1 v2 v3 v4 v5 v6 v7 v8 v9 v10 v11 v12 v13 : Value} (hf : fn.results = #[.cell 4 83]) (ht : tm[4]? = some (.pointer (some ⟨b, 0, none⟩))) (hx : W.heap[b]? = some (.cells #[v0, v1, v2, v3, v4, v5, v6, v7, v8, v9, v10, v11, v12, v13] 83 (0, 0))) :
    Sem.run Tryz.prog (results fn tm) W = .ok (.agg #[v0, v1, v2, v3, v4, v5, v6, v7, v8, v9, v10, v11, v12, v13]) W := by
  have s0 := cellN (i := 0) (x := v0) hx rfl
  have s1 := cellN (i := 1) (x := v1) hx rfl
  have s2 := cellN (i := 2) (x := v2) hx rfl
  have s3 := cellN (i := 3) (x := v3) hx rfl
  have s4 := cellN (i := 4) (x := v4) hx rfl
  have s5 := cellN (i := 5) (x := v5) hx rfl
  have s6 := cellN (i := 6) (x := v6) hx rfl
  have s7 := cellN (i := 7) (x := v7) hx rfl
  have s8 := cellN (i := 8) (x := v8) hx rfl
  have s9 := cellN (i := 9) (x := v9) hx rfl
  have s10 := cellN (i := 10) (x := v10) hx rfl
  have s11 := cellN (i := 11) (x := v11) hx rfl
  have s12 := cellN (i := 12) (x := v12) hx rfl
  have s13 := cellN (i := 13) (x := v13) hx rfl
  simp [results, hf, go_sem, ht, s0, s1, s2, s3, s4, s5, s6, s7, s8, s9, s10, s11, s12, s13]
set_option maxRecDepth 100000 in
set_option maxHeartbeats 4000000 in
theorem readNode1 (w0 w : World) (R P : Nat) (p0 : List UInt8) (hG : Gk w0) (hb : Below w0.heap.size w0 w) (hR : w0.heap.size ≤ R) (hl : ∀ x ∈ [p0], x.length ≤ 1000000) (h : RdL w R P [p0] false) :
    Calls Tryz.prog 79 #[.pointer (some ⟨R, 0, none⟩), .int .i64 1] w fun e w' => NodeOut w w' R P e (node1 p0) := by
  have HF0 := Lib.hid (NdF.start h 1)
  have HG := Lib.hid hG
  have HB := Lib.hid hb
  have HR := Lib.hid hR
  have HLp0 := Lib.hid (hl p0 (by simp))
  clear hG hb hR hl h
  go_enter Tryz.func79, Tryz.ntmps79
  go_wp2_with (first
    | (go_at_call 104; (with_reducible refine (type_in HF0.out HG.out HB.out HR.out HLp0.out).mono ?_); rintro e w1 ⟨⟨X1, t1, c1, rfl, hv, hi⟩, hf⟩; have HV1 := Lib.hid hv; have g4a := cellN (i := 4) (x := .int .i64 0) hf.rf.fx rfl; have g4b := frozN (i := 4) hf.rf.fx; have g5a := cellN (i := 5) (x := .slice none 0 0) hf.rf.fx rfl; have g5b := frozN (i := 5) hf.rf.fx; have HF1 := Lib.hid (hf.setTy hi); clear hv hi hf HF0; have hf5 := HF1.out.rf.fx; have hb5 := HF1.out.rf.bx; have x0 := cellN (i := 0) (x := .int .i64 1) hf5 rfl; have y0 := cellN (i := 0) (x := .int .i64 0) hb5 rfl; have z0 := frozN (i := 0) hb5; have x1 := cellN (i := 1) (x := .slice none 0 0) hf5 rfl; have y1 := cellN (i := 1) (x := .slice none 0 0) hb5 rfl; have z1 := frozN (i := 1) hb5; have x2 := cellN (i := 2) (x := .slice none 0 0) hf5 rfl; have y2 := cellN (i := 2) (x := .slice none 0 0) hb5 rfl; have z2 := frozN (i := 2) hb5; have x3 := cellN (i := 3) (x := .string ⟨#[]⟩) hf5 rfl; have y3 := cellN (i := 3) (x := .string ⟨#[]⟩) hb5 rfl; have z3 := frozN (i := 3) hb5; have x4 := cellN (i := 4) (x := .int .i64 t1.kind) hf5 rfl; have y4 := cellN (i := 4) (x := .int .i64 0) hb5 rfl; have z4 := frozN (i := 4) hb5; have x5 := cellN (i := 5) (x := .slice X1 t1.args.length c1) hf5 rfl; have y5 := cellN (i := 5) (x := .slice none 0 0) hb5 rfl; have z5 := frozN (i := 5) hb5; have x6 := cellN (i := 6) (x := .int .i64 0) hf5 rfl; have y6 := cellN (i := 6) (x := .int .i64 0) hb5 rfl; have z6 := frozN (i := 6) hb5; have x7 := cellN (i := 7) (x := .int .i64 0) hf5 rfl; have y7 := cellN (i := 7) (x := .int .i64 0) hb5 rfl; have z7 := frozN (i := 7) hb5; have x8 := cellN (i := 8) (x := .int .i64 0) hf5 rfl; have y8 := cellN (i := 8) (x := .int .i64 0) hb5 rfl; have z8 := frozN (i := 8) hb5; have x9 := cellN (i := 9) (x := .int .i64 0) hf5 rfl; have y9 := cellN (i := 9) (x := .int .i64 0) hb5 rfl; have z9 := frozN (i := 9) hb5; have x10 := cellN (i := 10) (x := .int .i64 0) hf5 rfl; have y10 := cellN (i := 10) (x := .int .i64 0) hb5 rfl; have z10 := frozN (i := 10) hb5; have x11 := cellN (i := 11) (x := .int .i64 0) hf5 rfl; have y11 := cellN (i := 11) (x := .int .i64 0) hb5 rfl; have z11 := frozN (i := 11) hb5; have x12 := cellN (i := 12) (x := .int .i64 0) hf5 rfl; have y12 := cellN (i := 12) (x := .int .i64 0) hb5 rfl; have z12 := frozN (i := 12) hb5; have x13 := cellN (i := 13) (x := .bool false) hf5 rfl; have y13 := cellN (i := 13) (x := .bool false) hb5 rfl; have z13 := frozN (i := 13) hb5; clear hf5 hb5)
    | fail)
  have ht := HF1.out.told
  refine bodyPost_ret (v := .agg #[.int .i64 1, .slice none 0 0, .slice none 0 0, .string ⟨#[]⟩, .int .i64 t1.kind, .slice X1 t1.args.length c1, .int .i64 0, .int .i64 0, .int .i64 0, .int .i64 0, .int .i64 0, .int .i64 0, .int .i64 0, .bool false]) (results_node Tryz.results79 rfl ht.1) rfl ?_
  refine ⟨⟨_, _, _, _, _, _, _, rfl, ?_, ht.2.2.2⟩, ?_, ht.2.2.1⟩
  · intro v hv
    unfold node1 at hv
    cases hq : (Knd.parseT p0).2 with
    | none => rw [hq] at hv; cases hv
    | some t => rw [hq] at hv; cases hv; obtain rfl := HV1.out t hq; rfl
  · have := ht.2.1
    unfold node1
    cases hq : (Knd.parseT p0).2 <;> simpa [hq] using this
set_option maxRecDepth 100000 in
set_option maxHeartbeats 4000000 in
theorem readNode2 {q : List UInt8 → Option (List Int)} (hq : PlacesOk q) (w0 w : World) (R P : Nat) (p0 p1 p2 : List UInt8) (hG : Gk w0) (hb : Below w0.heap.size w0 w) (hR : w0.heap.size ≤ R) (hl : ∀ x ∈ [p0, p1, p2], x.length ≤ 1000000) (h : RdL w R P [p0, p1, p2] false) :
    Calls Tryz.prog 79 #[.pointer (some ⟨R, 0, none⟩), .int .i64 2] w fun e w' => NodeOut w w' R P e (node2 q p0 p1 p2) := by
  have HF0 := Lib.hid (NdF.start h 2)
  have HG := Lib.hid hG
  have HB := Lib.hid hb
  have HR := Lib.hid hR
  have HPQ := Lib.hid hq
  have HLp0 := Lib.hid (hl p0 (by simp))
  have HLp1 := Lib.hid (hl p1 (by simp))
  have HLp2 := Lib.hid (hl p2 (by simp))
  clear hG hb hR hl h hq
  go_enter Tryz.func79, Tryz.ntmps79
  go_wp2_with (first
    | (go_at_call 105; (with_reducible refine (place_in HF0.out HG.out HB.out HR.out HLp0.out).mono ?_); rintro e w1 ⟨⟨X1, v1, rfl, hv, hi⟩, hf⟩; have HV1 := Lib.hid hv; have g1a := cellN (i := 1) (x := .slice none 0 0) hf.rf.fx rfl; have g1b := frozN (i := 1) hf.rf.fx; have HF1 := Lib.hid (hf.setIns1 hi); clear hv hi hf HF0)
    | (go_at_call 106; (with_reducible refine (sides_in HPQ.out HF1.out HG.out HB.out HR.out HLp1.out).mono ?_); rintro e w2 ⟨⟨X2, v2, c2, rfl, hv, hi⟩, hf⟩; have HV2 := Lib.hid hv; have g2a := cellN (i := 2) (x := .slice none 0 0) hf.rf.fx rfl; have g2b := frozN (i := 2) hf.rf.fx; have HF2 := Lib.hid (hf.setSide hi); clear hv hi hf HF1)
    | (go_at_call 107; (with_reducible refine (text_in HF2.out HG.out HB.out HR.out HLp2.out).mono ?_); rintro e w3 ⟨rfl, hf⟩; have g3a := cellN (i := 3) (x := .string ⟨#[]⟩) hf.rf.fx rfl; have g3b := frozN (i := 3) hf.rf.fx; have HF3 := Lib.hid (hf.setText p2); clear hf HF2; have hf5 := HF3.out.rf.fx; have hb5 := HF3.out.rf.bx; have x0 := cellN (i := 0) (x := .int .i64 2) hf5 rfl; have y0 := cellN (i := 0) (x := .int .i64 0) hb5 rfl; have z0 := frozN (i := 0) hb5; have x1 := cellN (i := 1) (x := .slice X1 1 1) hf5 rfl; have y1 := cellN (i := 1) (x := .slice none 0 0) hb5 rfl; have z1 := frozN (i := 1) hb5; have x2 := cellN (i := 2) (x := .slice X2 v2.length c2) hf5 rfl; have y2 := cellN (i := 2) (x := .slice none 0 0) hb5 rfl; have z2 := frozN (i := 2) hb5; have x3 := cellN (i := 3) (x := .string ⟨p2.toArray⟩) hf5 rfl; have y3 := cellN (i := 3) (x := .string ⟨#[]⟩) hb5 rfl; have z3 := frozN (i := 3) hb5; have x4 := cellN (i := 4) (x := .int .i64 0) hf5 rfl; have y4 := cellN (i := 4) (x := .int .i64 0) hb5 rfl; have z4 := frozN (i := 4) hb5; have x5 := cellN (i := 5) (x := .slice none 0 0) hf5 rfl; have y5 := cellN (i := 5) (x := .slice none 0 0) hb5 rfl; have z5 := frozN (i := 5) hb5; have x6 := cellN (i := 6) (x := .int .i64 0) hf5 rfl; have y6 := cellN (i := 6) (x := .int .i64 0) hb5 rfl; have z6 := frozN (i := 6) hb5; have x7 := cellN (i := 7) (x := .int .i64 0) hf5 rfl; have y7 := cellN (i := 7) (x := .int .i64 0) hb5 rfl; have z7 := frozN (i := 7) hb5; have x8 := cellN (i := 8) (x := .int .i64 0) hf5 rfl; have y8 := cellN (i := 8) (x := .int .i64 0) hb5 rfl; have z8 := frozN (i := 8) hb5; have x9 := cellN (i := 9) (x := .int .i64 0) hf5 rfl; have y9 := cellN (i := 9) (x := .int .i64 0) hb5 rfl; have z9 := frozN (i := 9) hb5; have x10 := cellN (i := 10) (x := .int .i64 0) hf5 rfl; have y10 := cellN (i := 10) (x := .int .i64 0) hb5 rfl; have z10 := frozN (i := 10) hb5; have x11 := cellN (i := 11) (x := .int .i64 0) hf5 rfl; have y11 := cellN (i := 11) (x := .int .i64 0) hb5 rfl; have z11 := frozN (i := 11) hb5; have x12 := cellN (i := 12) (x := .int .i64 0) hf5 rfl; have y12 := cellN (i := 12) (x := .int .i64 0) hb5 rfl; have z12 := frozN (i := 12) hb5; have x13 := cellN (i := 13) (x := .bool false) hf5 rfl; have y13 := cellN (i := 13) (x := .bool false) hb5 rfl; have z13 := frozN (i := 13) hb5; clear hf5 hb5)
    | fail)
  have ht := HF3.out.told
  refine bodyPost_ret (v := .agg #[.int .i64 2, .slice X1 1 1, .slice X2 v2.length c2, .string ⟨p2.toArray⟩, .int .i64 0, .slice none 0 0, .int .i64 0, .int .i64 0, .int .i64 0, .int .i64 0, .int .i64 0, .int .i64 0, .int .i64 0, .bool false]) (results_node Tryz.results79 rfl ht.1) rfl ?_
  refine ⟨⟨_, _, _, _, _, _, _, rfl, ?_, ht.2.2.2⟩, ?_, ht.2.2.1⟩
  · intro v hv
    unfold node2 at hv
    split at hv
    · rename_i i s e0 e1 e2
      cases hv
      obtain rfl := HV1.out _ e0
      obtain rfl := HV2.out _ (by simp [badP, e0]) e1
      rfl
    · cases hv
  · have hb : ((((false || badP p0) || !(sidesP q p1).isSome) || !isTx p2)) = !(node2 q p0 p1 p2).isSome := by
      unfold node2 badP
      cases goodN p0 999 <;> cases sidesP q p1 <;> cases isTx p2 <;> rfl
    rw [← hb]
    exact ht.2.1
set_option maxRecDepth 100000 in
set_option maxHeartbeats 4000000 in
theorem readNode3 (w0 w : World) (R P : Nat) (p0 p1 p2 p3 p4 : List UInt8) (hG : Gk w0) (hb : Below w0.heap.size w0 w) (hR : w0.heap.size ≤ R) (hl : ∀ x ∈ [p0, p1, p2, p3, p4], x.length ≤ 1000000) (h : RdL w R P [p0, p1, p2, p3, p4] false) :
    Calls Tryz.prog 79 #[.pointer (some ⟨R, 0, none⟩), .int .i64 3] w fun e w' => NodeOut w w' R P e (node3 p0 p1 p2 p3 p4) := by
  have HF0 := Lib.hid (NdF.start h 3)
  have HG := Lib.hid hG
  have HB := Lib.hid hb
  have HR := Lib.hid hR
  have HLp0 := Lib.hid (hl p0 (by simp))
  have HLp1 := Lib.hid (hl p1 (by simp))
  have HLp2 := Lib.hid (hl p2 (by simp))
  have HLp3 := Lib.hid (hl p3 (by simp))
  have HLp4 := Lib.hid (hl p4 (by simp))
  clear hG hb hR hl h
  go_enter Tryz.func79, Tryz.ntmps79
  go_wp2_with (first
    | (go_at_call 105; (with_reducible refine (place_in HF0.out HG.out HB.out HR.out HLp0.out).mono ?_); rintro e w1 ⟨⟨X1, v1, rfl, hv, hi⟩, hf⟩; have HV1 := Lib.hid hv; have g1a := cellN (i := 1) (x := .slice none 0 0) hf.rf.fx rfl; have g1b := frozN (i := 1) hf.rf.fx; have HF1 := Lib.hid (hf.setIns1 hi); clear hv hi hf HF0)
    | (go_at_call 108; (with_reducible refine (fn_in HF1.out HG.out HB.out HR.out HLp1.out HLp2.out HLp3.out HLp4.out).mono ?_); rintro e w2 ⟨⟨a0, a1, a2, a3, rfl, hv0, hv1, hv2, hv3⟩, hf⟩; have HA0 := Lib.hid hv0; have HA1 := Lib.hid hv1; have HA2 := Lib.hid hv2; have HA3 := Lib.hid hv3; have g6a := cellN (i := 6) (x := .int .i64 0) hf.rf.fx rfl; have g6b := frozN (i := 6) hf.rf.fx; have g7a := cellN (i := 7) (x := .int .i64 0) hf.rf.fx rfl; have g7b := frozN (i := 7) hf.rf.fx; have g8a := cellN (i := 8) (x := .int .i64 0) hf.rf.fx rfl; have g8b := frozN (i := 8) hf.rf.fx; have g9a := cellN (i := 9) (x := .int .i64 0) hf.rf.fx rfl; have g9b := frozN (i := 9) hf.rf.fx; have HF2 := Lib.hid (hf.setFn a0 a1 a2 a3); clear hv0 hv1 hv2 hv3 hf HF1; have hf5 := HF2.out.rf.fx; have hb5 := HF2.out.rf.bx; have x0 := cellN (i := 0) (x := .int .i64 3) hf5 rfl; have y0 := cellN (i := 0) (x := .int .i64 0) hb5 rfl; have z0 := frozN (i := 0) hb5; have x1 := cellN (i := 1) (x := .slice X1 1 1) hf5 rfl; have y1 := cellN (i := 1) (x := .slice none 0 0) hb5 rfl; have z1 := frozN (i := 1) hb5; have x2 := cellN (i := 2) (x := .slice none 0 0) hf5 rfl; have y2 := cellN (i := 2) (x := .slice none 0 0) hb5 rfl; have z2 := frozN (i := 2) hb5; have x3 := cellN (i := 3) (x := .string ⟨#[]⟩) hf5 rfl; have y3 := cellN (i := 3) (x := .string ⟨#[]⟩) hb5 rfl; have z3 := frozN (i := 3) hb5; have x4 := cellN (i := 4) (x := .int .i64 0) hf5 rfl; have y4 := cellN (i := 4) (x := .int .i64 0) hb5 rfl; have z4 := frozN (i := 4) hb5; have x5 := cellN (i := 5) (x := .slice none 0 0) hf5 rfl; have y5 := cellN (i := 5) (x := .slice none 0 0) hb5 rfl; have z5 := frozN (i := 5) hb5; have x6 := cellN (i := 6) (x := .int .i64 a0) hf5 rfl; have y6 := cellN (i := 6) (x := .int .i64 0) hb5 rfl; have z6 := frozN (i := 6) hb5; have x7 := cellN (i := 7) (x := .int .i64 a1) hf5 rfl; have y7 := cellN (i := 7) (x := .int .i64 0) hb5 rfl; have z7 := frozN (i := 7) hb5; have x8 := cellN (i := 8) (x := .int .i64 a2) hf5 rfl; have y8 := cellN (i := 8) (x := .int .i64 0) hb5 rfl; have z8 := frozN (i := 8) hb5; have x9 := cellN (i := 9) (x := .int .i64 a3) hf5 rfl; have y9 := cellN (i := 9) (x := .int .i64 0) hb5 rfl; have z9 := frozN (i := 9) hb5; have x10 := cellN (i := 10) (x := .int .i64 0) hf5 rfl; have y10 := cellN (i := 10) (x := .int .i64 0) hb5 rfl; have z10 := frozN (i := 10) hb5; have x11 := cellN (i := 11) (x := .int .i64 0) hf5 rfl; have y11 := cellN (i := 11) (x := .int .i64 0) hb5 rfl; have z11 := frozN (i := 11) hb5; have x12 := cellN (i := 12) (x := .int .i64 0) hf5 rfl; have y12 := cellN (i := 12) (x := .int .i64 0) hb5 rfl; have z12 := frozN (i := 12) hb5; have x13 := cellN (i := 13) (x := .bool false) hf5 rfl; have y13 := cellN (i := 13) (x := .bool false) hb5 rfl; have z13 := frozN (i := 13) hb5; clear hf5 hb5)
    | fail)
  have ht := HF2.out.told
  refine bodyPost_ret (v := .agg #[.int .i64 3, .slice X1 1 1, .slice none 0 0, .string ⟨#[]⟩, .int .i64 0, .slice none 0 0, .int .i64 a0, .int .i64 a1, .int .i64 a2, .int .i64 a3, .int .i64 0, .int .i64 0, .int .i64 0, .bool false]) (results_node Tryz.results79 rfl ht.1) rfl ?_
  refine ⟨⟨_, _, _, _, _, _, _, rfl, ?_, ht.2.2.2⟩, ?_, ht.2.2.1⟩
  · intro v hv
    unfold node3 at hv
    split at hv
    · rename_i i a b c d e0 e1 e2 e3 e4
      cases hv
      obtain rfl := HV1.out _ e0
      obtain rfl := HA0.out _ e1
      obtain rfl := HA1.out _ e2
      obtain rfl := HA2.out _ e3
      obtain rfl := HA3.out _ e4
      rfl
    · cases hv
  · have hb : ((((((false || badP p0) || badN p1) || badN p2) || badN p3) || badN p4)) = !(node3 p0 p1 p2 p3 p4).isSome := by
      unfold node3 badP badN
      cases goodN p0 999 <;> cases goodN p1 9999999 <;> cases goodN p2 9999999 <;> cases goodN p3 9999999 <;> cases goodN p4 9999999 <;> rfl
    rw [← hb]
    exact ht.2.1
set_option maxRecDepth 100000 in
set_option maxHeartbeats 4000000 in
theorem readNode4 (w0 w : World) (R P : Nat) (p0 p1 p2 p3 p4 p5 : List UInt8) (hG : Gk w0) (hb : Below w0.heap.size w0 w) (hR : w0.heap.size ≤ R) (hl : ∀ x ∈ [p0, p1, p2, p3, p4, p5], x.length ≤ 1000000) (h : RdL w R P [p0, p1, p2, p3, p4, p5] false) :
    Calls Tryz.prog 79 #[.pointer (some ⟨R, 0, none⟩), .int .i64 4] w fun e w' => NodeOut w w' R P e (node4 p0 p1 p2 p3 p4 p5) := by
  have HF0 := Lib.hid (NdF.start h 4)
  have HG := Lib.hid hG
  have HB := Lib.hid hb
  have HR := Lib.hid hR
  have HLp0 := Lib.hid (hl p0 (by simp))
  have HLp1 := Lib.hid (hl p1 (by simp))
  have HLp2 := Lib.hid (hl p2 (by simp))
  have HLp3 := Lib.hid (hl p3 (by simp))
  have HLp5 := Lib.hid (hl p5 (by simp))
  clear hG hb hR hl h
  go_enter Tryz.func79, Tryz.ntmps79
  go_wp2_with (first
    | (go_at_call 105; (with_reducible refine (place_in HF0.out HG.out HB.out HR.out HLp0.out).mono ?_); rintro e w1 ⟨⟨X1, v1, rfl, hv, hi⟩, hf⟩; have HV1 := Lib.hid hv; have g1a := cellN (i := 1) (x := .slice none 0 0) hf.rf.fx rfl; have g1b := frozN (i := 1) hf.rf.fx; have HF1 := Lib.hid (hf.setIns1 hi); clear hv hi hf HF0)
    | (go_at_call 109; (with_reducible refine (trig_in HF1.out HG.out HB.out HR.out HLp1.out HLp2.out HLp3.out).mono ?_); rintro e w2 ⟨⟨a0, a1, a2, a3, rfl, hv0, hv1, hv2, hv3⟩, hf⟩; have HA0 := Lib.hid hv0; have HA1 := Lib.hid hv1; have HA2 := Lib.hid hv2; have HA3 := Lib.hid hv3; have g10a := cellN (i := 10) (x := .int .i64 0) hf.rf.fx rfl; have g10b := frozN (i := 10) hf.rf.fx; have g11a := cellN (i := 11) (x := .int .i64 0) hf.rf.fx rfl; have g11b := frozN (i := 11) hf.rf.fx; have g12a := cellN (i := 12) (x := .int .i64 0) hf.rf.fx rfl; have g12b := frozN (i := 12) hf.rf.fx; have g13a := cellN (i := 13) (x := .bool false) hf.rf.fx rfl; have g13b := frozN (i := 13) hf.rf.fx; have HF2 := Lib.hid (hf.setTrig a0 a1 a2 a3); clear hv0 hv1 hv2 hv3 hf HF1)
    | (go_at_call 107; (with_reducible refine (text_in HF2.out HG.out HB.out HR.out HLp5.out).mono ?_); rintro e w3 ⟨rfl, hf⟩; have g3a := cellN (i := 3) (x := .string ⟨#[]⟩) hf.rf.fx rfl; have g3b := frozN (i := 3) hf.rf.fx; have HF3 := Lib.hid (hf.setText p5); clear hf HF2; have hf5 := HF3.out.rf.fx; have hb5 := HF3.out.rf.bx; have x0 := cellN (i := 0) (x := .int .i64 4) hf5 rfl; have y0 := cellN (i := 0) (x := .int .i64 0) hb5 rfl; have z0 := frozN (i := 0) hb5; have x1 := cellN (i := 1) (x := .slice X1 1 1) hf5 rfl; have y1 := cellN (i := 1) (x := .slice none 0 0) hb5 rfl; have z1 := frozN (i := 1) hb5; have x2 := cellN (i := 2) (x := .slice none 0 0) hf5 rfl; have y2 := cellN (i := 2) (x := .slice none 0 0) hb5 rfl; have z2 := frozN (i := 2) hb5; have x3 := cellN (i := 3) (x := .string ⟨p5.toArray⟩) hf5 rfl; have y3 := cellN (i := 3) (x := .string ⟨#[]⟩) hb5 rfl; have z3 := frozN (i := 3) hb5; have x4 := cellN (i := 4) (x := .int .i64 0) hf5 rfl; have y4 := cellN (i := 4) (x := .int .i64 0) hb5 rfl; have z4 := frozN (i := 4) hb5; have x5 := cellN (i := 5) (x := .slice none 0 0) hf5 rfl; have y5 := cellN (i := 5) (x := .slice none 0 0) hb5 rfl; have z5 := frozN (i := 5) hb5; have x6 := cellN (i := 6) (x := .int .i64 0) hf5 rfl; have y6 := cellN (i := 6) (x := .int .i64 0) hb5 rfl; have z6 := frozN (i := 6) hb5; have x7 := cellN (i := 7) (x := .int .i64 0) hf5 rfl; have y7 := cellN (i := 7) (x := .int .i64 0) hb5 rfl; have z7 := frozN (i := 7) hb5; have x8 := cellN (i := 8) (x := .int .i64 0) hf5 rfl; have y8 := cellN (i := 8) (x := .int .i64 0) hb5 rfl; have z8 := frozN (i := 8) hb5; have x9 := cellN (i := 9) (x := .int .i64 0) hf5 rfl; have y9 := cellN (i := 9) (x := .int .i64 0) hb5 rfl; have z9 := frozN (i := 9) hb5; have x10 := cellN (i := 10) (x := .int .i64 a0) hf5 rfl; have y10 := cellN (i := 10) (x := .int .i64 0) hb5 rfl; have z10 := frozN (i := 10) hb5; have x11 := cellN (i := 11) (x := .int .i64 a1) hf5 rfl; have y11 := cellN (i := 11) (x := .int .i64 0) hb5 rfl; have z11 := frozN (i := 11) hb5; have x12 := cellN (i := 12) (x := .int .i64 a2) hf5 rfl; have y12 := cellN (i := 12) (x := .int .i64 0) hb5 rfl; have z12 := frozN (i := 12) hb5; have x13 := cellN (i := 13) (x := .bool a3) hf5 rfl; have y13 := cellN (i := 13) (x := .bool false) hb5 rfl; have z13 := frozN (i := 13) hb5; clear hf5 hb5)
    | fail)
  have ht := HF3.out.told
  refine bodyPost_ret (v := .agg #[.int .i64 4, .slice X1 1 1, .slice none 0 0, .string ⟨p5.toArray⟩, .int .i64 0, .slice none 0 0, .int .i64 0, .int .i64 0, .int .i64 0, .int .i64 0, .int .i64 a0, .int .i64 a1, .int .i64 a2, .bool a3]) (results_node Tryz.results79 rfl ht.1) rfl ?_
  refine ⟨⟨_, _, _, _, _, _, _, rfl, ?_, ht.2.2.2⟩, ?_, ht.2.2.1⟩
  · intro v hv
    unfold node4 at hv
    split at hv
    · rename_i i a b c m e0 e1 e2 e3 e4 e5
      cases hv
      obtain rfl := HV1.out _ e0
      obtain rfl := HA0.out _ e1
      obtain rfl := HA1.out _ e2
      obtain rfl := HA2.out _ e3
      obtain rfl := HA3.out _ e4
      rfl
    · cases hv
  · have hb : (((((((false || badP p0) || badN p1) || badN p2) || badN p3) || !(modeP p4).isSome) || !isTx p5)) = !(node4 p0 p1 p2 p3 p4 p5).isSome := by
      unfold node4 badP badN
      cases goodN p0 999 <;> cases goodN p1 9999999 <;> cases goodN p2 9999999 <;> cases goodN p3 9999999 <;> cases modeP p4 <;> cases isTx p5 <;> rfl
    rw [← hb]
    exact ht.2.1
set_option maxRecDepth 100000 in
set_option maxHeartbeats 4000000 in
theorem readNode5 {q : List UInt8 → Option (List Int)} (hq : PlacesOk q) (w0 w : World) (R P : Nat) (p0 : List UInt8) (hG : Gk w0) (hb : Below w0.heap.size w0 w) (hR : w0.heap.size ≤ R) (hl : ∀ x ∈ [p0], x.length ≤ 1000000) (h : RdL w R P [p0] false) :
    Calls Tryz.prog 79 #[.pointer (some ⟨R, 0, none⟩), .int .i64 5] w fun e w' => NodeOut w w' R P e (node5 q p0) := by
  have HF0 := Lib.hid (NdF.start h 5)
  have HG := Lib.hid hG
  have HB := Lib.hid hb
  have HR := Lib.hid hR
  have HPQ := Lib.hid hq
  have HLp0 := Lib.hid (hl p0 (by simp))
  clear hG hb hR hl h hq
  go_enter Tryz.func79, Tryz.ntmps79
  go_wp2_with (first
    | (go_at_call 111; (with_reducible refine (next_in HF0.out HG.out HB.out HR.out).mono ?_); rintro e w1 ⟨rfl, hf⟩; have HF1 := Lib.hid hf; clear hf HF0)
    | (go_at_call 110; (with_reducible refine (places_in HPQ.out p0 HF1.out HG.out HB.out HR.out HLp0.out).mono ?_); rintro e w2 ⟨⟨X2, v2, c2, rfl, hv, hi⟩, hf⟩; have HV2 := Lib.hid hv; have g1a := cellN (i := 1) (x := .slice none 0 0) hf.rf.fx rfl; have g1b := frozN (i := 1) hf.rf.fx; have HF2 := Lib.hid (hf.setIns hi); clear hv hi hf HF1; have hf5 := HF2.out.rf.fx; have hb5 := HF2.out.rf.bx; have x0 := cellN (i := 0) (x := .int .i64 5) hf5 rfl; have y0 := cellN (i := 0) (x := .int .i64 0) hb5 rfl; have z0 := frozN (i := 0) hb5; have x1 := cellN (i := 1) (x := .slice X2 v2.length c2) hf5 rfl; have y1 := cellN (i := 1) (x := .slice none 0 0) hb5 rfl; have z1 := frozN (i := 1) hb5; have x2 := cellN (i := 2) (x := .slice none 0 0) hf5 rfl; have y2 := cellN (i := 2) (x := .slice none 0 0) hb5 rfl; have z2 := frozN (i := 2) hb5; have x3 := cellN (i := 3) (x := .string ⟨#[]⟩) hf5 rfl; have y3 := cellN (i := 3) (x := .string ⟨#[]⟩) hb5 rfl; have z3 := frozN (i := 3) hb5; have x4 := cellN (i := 4) (x := .int .i64 0) hf5 rfl; have y4 := cellN (i := 4) (x := .int .i64 0) hb5 rfl; have z4 := frozN (i := 4) hb5; have x5 := cellN (i := 5) (x := .slice none 0 0) hf5 rfl; have y5 := cellN (i := 5) (x := .slice none 0 0) hb5 rfl; have z5 := frozN (i := 5) hb5; have x6 := cellN (i := 6) (x := .int .i64 0) hf5 rfl; have y6 := cellN (i := 6) (x := .int .i64 0) hb5 rfl; have z6 := frozN (i := 6) hb5; have x7 := cellN (i := 7) (x := .int .i64 0) hf5 rfl; have y7 := cellN (i := 7) (x := .int .i64 0) hb5 rfl; have z7 := frozN (i := 7) hb5; have x8 := cellN (i := 8) (x := .int .i64 0) hf5 rfl; have y8 := cellN (i := 8) (x := .int .i64 0) hb5 rfl; have z8 := frozN (i := 8) hb5; have x9 := cellN (i := 9) (x := .int .i64 0) hf5 rfl; have y9 := cellN (i := 9) (x := .int .i64 0) hb5 rfl; have z9 := frozN (i := 9) hb5; have x10 := cellN (i := 10) (x := .int .i64 0) hf5 rfl; have y10 := cellN (i := 10) (x := .int .i64 0) hb5 rfl; have z10 := frozN (i := 10) hb5; have x11 := cellN (i := 11) (x := .int .i64 0) hf5 rfl; have y11 := cellN (i := 11) (x := .int .i64 0) hb5 rfl; have z11 := frozN (i := 11) hb5; have x12 := cellN (i := 12) (x := .int .i64 0) hf5 rfl; have y12 := cellN (i := 12) (x := .int .i64 0) hb5 rfl; have z12 := frozN (i := 12) hb5; have x13 := cellN (i := 13) (x := .bool false) hf5 rfl; have y13 := cellN (i := 13) (x := .bool false) hb5 rfl; have z13 := frozN (i := 13) hb5; clear hf5 hb5)
    | fail)
  have ht := HF2.out.told
  refine bodyPost_ret (v := .agg #[.int .i64 5, .slice X2 v2.length c2, .slice none 0 0, .string ⟨#[]⟩, .int .i64 0, .slice none 0 0, .int .i64 0, .int .i64 0, .int .i64 0, .int .i64 0, .int .i64 0, .int .i64 0, .int .i64 0, .bool false]) (results_node Tryz.results79 rfl ht.1) rfl ?_
  refine ⟨⟨_, _, _, _, _, _, _, rfl, ?_, ht.2.2.2⟩, ?_, ht.2.2.1⟩
  · intro v hv
    unfold node5 at hv
    split at hv
    · rename_i s e0
      cases hv
      obtain rfl := HV2.out _ trivial e0
      rfl
    · cases hv
  · have hb : ((false || !(q p0).isSome)) = !(node5 q p0).isSome := by
      unfold node5
      cases q p0 <;> rfl
    rw [← hb]
    exact ht.2.1
set_option maxRecDepth 100000 in
set_option maxHeartbeats 4000000 in
theorem readNode6 (w0 w : World) (R P : Nat) (p0 : List UInt8) (hG : Gk w0) (hb : Below w0.heap.size w0 w) (hR : w0.heap.size ≤ R) (hl : ∀ x ∈ [p0], x.length ≤ 1000000) (h : RdL w R P [p0] false) :
    Calls Tryz.prog 79 #[.pointer (some ⟨R, 0, none⟩), .int .i64 6] w fun e w' => NodeOut w w' R P e (node6 p0) := by
  have HF0 := Lib.hid (NdF.start h 6)
  have HG := Lib.hid hG
  have HB := Lib.hid hb
  have HR := Lib.hid hR
  have HLp0 := Lib.hid (hl p0 (by simp))
  clear hG hb hR hl h
  go_enter Tryz.func79, Tryz.ntmps79
  go_wp2_with (first
    | (go_at_call 105; (with_reducible refine (place_in HF0.out HG.out HB.out HR.out HLp0.out).mono ?_); rintro e w1 ⟨⟨X1, v1, rfl, hv, hi⟩, hf⟩; have HV1 := Lib.hid hv; have g1a := cellN (i := 1) (x := .slice none 0 0) hf.rf.fx rfl; have g1b := frozN (i := 1) hf.rf.fx; have HF1 := Lib.hid (hf.setIns1 hi); clear hv hi hf HF0; have hf5 := HF1.out.rf.fx; have hb5 := HF1.out.rf.bx; have x0 := cellN (i := 0) (x := .int .i64 6) hf5 rfl; have y0 := cellN (i := 0) (x := .int .i64 0) hb5 rfl; have z0 := frozN (i := 0) hb5; have x1 := cellN (i := 1) (x := .slice X1 1 1) hf5 rfl; have y1 := cellN (i := 1) (x := .slice none 0 0) hb5 rfl; have z1 := frozN (i := 1) hb5; have x2 := cellN (i := 2) (x := .slice none 0 0) hf5 rfl; have y2 := cellN (i := 2) (x := .slice none 0 0) hb5 rfl; have z2 := frozN (i := 2) hb5; have x3 := cellN (i := 3) (x := .string ⟨#[]⟩) hf5 rfl; have y3 := cellN (i := 3) (x := .string ⟨#[]⟩) hb5 rfl; have z3 := frozN (i := 3) hb5; have x4 := cellN (i := 4) (x := .int .i64 0) hf5 rfl; have y4 := cellN (i := 4) (x := .int .i64 0) hb5 rfl; have z4 := frozN (i := 4) hb5; have x5 := cellN (i := 5) (x := .slice none 0 0) hf5 rfl; have y5 := cellN (i := 5) (x := .slice none 0 0) hb5 rfl; have z5 := frozN (i := 5) hb5; have x6 := cellN (i := 6) (x := .int .i64 0) hf5 rfl; have y6 := cellN (i := 6) (x := .int .i64 0) hb5 rfl; have z6 := frozN (i := 6) hb5; have x7 := cellN (i := 7) (x := .int .i64 0) hf5 rfl; have y7 := cellN (i := 7) (x := .int .i64 0) hb5 rfl; have z7 := frozN (i := 7) hb5; have x8 := cellN (i := 8) (x := .int .i64 0) hf5 rfl; have y8 := cellN (i := 8) (x := .int .i64 0) hb5 rfl; have z8 := frozN (i := 8) hb5; have x9 := cellN (i := 9) (x := .int .i64 0) hf5 rfl; have y9 := cellN (i := 9) (x := .int .i64 0) hb5 rfl; have z9 := frozN (i := 9) hb5; have x10 := cellN (i := 10) (x := .int .i64 0) hf5 rfl; have y10 := cellN (i := 10) (x := .int .i64 0) hb5 rfl; have z10 := frozN (i := 10) hb5; have x11 := cellN (i := 11) (x := .int .i64 0) hf5 rfl; have y11 := cellN (i := 11) (x := .int .i64 0) hb5 rfl; have z11 := frozN (i := 11) hb5; have x12 := cellN (i := 12) (x := .int .i64 0) hf5 rfl; have y12 := cellN (i := 12) (x := .int .i64 0) hb5 rfl; have z12 := frozN (i := 12) hb5; have x13 := cellN (i := 13) (x := .bool false) hf5 rfl; have y13 := cellN (i := 13) (x := .bool false) hb5 rfl; have z13 := frozN (i := 13) hb5; clear hf5 hb5)
    | fail)
  have ht := HF1.out.told
  refine bodyPost_ret (v := .agg #[.int .i64 6, .slice X1 1 1, .slice none 0 0, .string ⟨#[]⟩, .int .i64 0, .slice none 0 0, .int .i64 0, .int .i64 0, .int .i64 0, .int .i64 0, .int .i64 0, .int .i64 0, .int .i64 0, .bool false]) (results_node Tryz.results79 rfl ht.1) rfl ?_
  refine ⟨⟨_, _, _, _, _, _, _, rfl, ?_, ht.2.2.2⟩, ?_, ht.2.2.1⟩
  · intro v hv
    unfold node6 at hv
    split at hv
    · rename_i i e0
      cases hv
      obtain rfl := HV1.out _ e0
      rfl
    · cases hv
  · have hb : ((false || badP p0)) = !(node6 p0).isSome := by
      unfold node6 badP
      cases goodN p0 999 <;> rfl
    rw [← hb]
    exact ht.2.1
end Go.Proofs.YtllnamhgnbdkmaaGreatDoor
