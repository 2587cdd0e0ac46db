/-
What the reader of package coder reads: values; readPair.
-/
import Derived.Test.YtbafplnolmdlnaaDoorRdm
namespace Go.Proofs.YtbafplnolmdlnaaDoor
open Go.RowKit

/-- Values of a list, from m on, up to the 00 at its end; at most k more. -/
def getL (f : Nat → Nat → Nat × Option (Val × Nat)) (lst : Nat) (l : List UInt8) : Nat → List Val → Nat → Nat → Nat × Option (List Val × Nat)
  | 0, _, m, _ => (m, none)
  | k + 1, acc, m, sz => match okB l m (mostM (decide (acc.length < 64)) (sz + lst)) with
    | none => (m, none)
    | some x => if x.toNat = 1 then (match f (m + 1) (sz + lst) with
        | (m', none) => (m', none)
        | (m', some (v, sz')) => getL f lst l k (acc ++ [v]) m' sz')
      else (m + 1, some (acc, sz))

/-- The two values of a pair. -/
def getP (f0 f1 : Nat → Nat → Nat × Option (Val × Nat)) (m sz : Nat) : Nat × Option (List Val × Nat) := match f0 m sz with
  | (m', none) => (m', none)
  | (m', some (v0, s1)) => match f1 m' s1 with
    | (m2, none) => (m2, none)
    | (m2, some (v1, s2)) => (m2, some ([v0, v1], s2))

/-- A value of an option. -/
def optV : Nat × Option (Val × Nat) → Nat × Option (Val × Nat)
  | (m', none) => (m', none)
  | (m', some (v, sz')) => (m', some (.mk 9 0 ⟨#[]⟩ 0 0 [v], sz'))

/-- An option's value. -/
def getO (f : Nat → Nat → Nat × Option (Val × Nat)) (lst : Nat) (l : List UInt8) (m sz : Nat) : Nat × Option (Val × Nat) := match okB l m (mostM true (sz + lst)) with
  | none => (m, none)
  | some x => if x.toNat = 1 then optV (f (m + 1) (sz + lst)) else (m + 1, some (.mk 8 0 ⟨#[]⟩ 0 0 [], sz))

def argT (t : Ty) (i : Nat) : Ty := (t.args[i]?).getD (.mk 0 [])
def leafV {α : Type} (f : α → Val) (sz : Nat) : Nat × Option α → Nat × Option (Val × Nat)
  | (m', none) => (m', none)
  | (m', some n) => (m', some (f n, sz))
def listV (k : Int) : Nat × Option (List Val × Nat) → Nat × Option (Val × Nat)
  | (m', none) => (m', none)
  | (m', some (vs, sz')) => (m', some (.mk k 0 ⟨#[]⟩ 0 0 vs, sz'))
def boolV (n : Nat) : Val := .mk 1 n ⟨#[]⟩ 0 0 []
def intV (n : Nat) : Val := .mk 2 ((n : Int) - 9223372036854775808) ⟨#[]⟩ 0 0 []
def textV (k : Int) (s : List UInt8) : Val := .mk k 0 ⟨s.toArray⟩ 0 0 []
def pointV (p : Int × Int) : Val := .mk 5 0 ⟨#[]⟩ p.1 p.2 []

/-- The value of a type from m on: where it ends, the value, and how great the whole is at least; none: where the fault is. -/
def getV : Nat → Ty → List UInt8 → Nat → Nat → Nat × Option (Val × Nat)
  | 0, _, _, m, _ => (m, none)
  | r + 1, t, l, m, sz =>
    if t.kind = 1 then leafV boolV sz (numL l 1 0 m 1)
    else if t.kind = 2 then leafV intV sz (numL l 8 0 m 255)
    else if t.kind = 3 ∨ t.kind = 4 then leafV (textV t.kind) sz (textL l (l.length + 1 - m) [] false m)
    else if t.kind = 5 then leafV pointV sz (pointL l m)
    else if t.kind = 6 then listV 6 (getP (getV r (argT t 0) l) (getV r (argT t 1) l) m sz)
    else if t.kind = 7 then listV 7 (getL (getV r (argT t 0) l) (leastT r (argT t 0)) l 65 [] m sz)
    else getO (getV r (argT t 0) l) (leastT r (argT t 0)) l m sz

def JunkV (v : Value) : Prop := ∃ (k i : Int) (s : ByteArray) (x y : Nat) (A : Option Addr) (n c : Nat), v = .agg #[.int .i64 k, .int .i64 i, .string s, .complex .f64 x y, .slice A n c]
def JunkL (v : Value) : Prop := ∃ (A : Option Addr) (n c : Nat), v = .slice A n c

/-- The slice v has the values L. -/
def LAt (w : World) (S : Nat → Prop) (d : Nat) (v : Value) (L : List Val) : Prop := ∃ A c, v = .slice A L.length c ∧ L.length ≤ c ∧ (0 < L.length → ∃ b o, A = some ⟨b, o, none⟩ ∧ S b ∧
      ∀ (j : Nat) (a : Val), L[j]? = some a → ∃ u0 u1 u2 u3 u4, w.cell? ⟨b, o + j * 5, none⟩ = some u0 ∧ w.cell? ⟨b, o + j * 5 + 1, none⟩ = some u1 ∧ w.cell? ⟨b, o + j * 5 + 2, none⟩ = some u2 ∧ w.cell? ⟨b, o + j * 5 + 3, none⟩ = some u3 ∧ w.cell? ⟨b, o + j * 5 + 4, none⟩ = some u4 ∧ VAt w S d (.agg #[u0, u1, u2, u3, u4]) a)

theorem float_zero : floatToIntVal .f64 0 .i64 = some 0 := by kernel_rfl

theorem VAt.of_list {w : World} {S : Nat → Prop} {d : Nat} {L : List Val} {v : Value} (k : Int) (h : LAt w S d v L) : VAt w S (d + 1) (.agg #[.int .i64 k, .int .i64 0, .string ⟨#[]⟩, .complex .f64 0 0, v]) (.mk k 0 ⟨#[]⟩ 0 0 L) := by
  obtain ⟨A, c, rfl, hc, hL⟩ := h
  exact ⟨A, c, 0, 0, rfl, float_zero, float_zero, hc, hL⟩
theorem VAt.of_leaf {w : World} {S : Nat → Prop} {d : Nat} {k i : Int} {s : ByteArray} {x y : Nat} {re im : Int} (hx : floatToIntVal .f64 x .i64 = some re) (hy : floatToIntVal .f64 y .i64 = some im) : VAt w S (d + 1) (.agg #[.int .i64 k, .int .i64 i, .string s, .complex .f64 x y, .slice none 0 0]) (.mk k i s re im []) :=
  ⟨none, 0, x, y, rfl, hx, hy, Nat.le_refl _, fun h => absurd h (by simp [Val.list])⟩

theorem VAt.junk {w : World} {S : Nat → Prop} {d : Nat} {v : Value} {V : Val} (h : VAt w S d v V) : JunkV v := by
  obtain ⟨A, c, x, y, rfl, _, _⟩ := h.form
  exact ⟨_, _, _, _, _, _, _, _, rfl⟩
theorem VAt.only {w w' : World} {R d : Nat} {S : Nat → Prop} {v : Value} {V : Val} (h : VAt w S d v V) (hS : ∀ b, S b → b ≠ R) (ho : Only R w w') : VAt w' S d v V :=
  h.move fun b hb hl => ⟨hb, fun _ => World.cell?_of_block (ho.block b hl (by simpa using hS b hb))⟩
theorem LAt.move {w w' : World} {S S' : Nat → Prop} {d : Nat} {v : Value} {L : List Val} (h : LAt w S d v L) (hk : ∀ b, S b → b < w.heap.size → S' b ∧ ∀ o, w'.cell? ⟨b, o, none⟩ = w.cell? ⟨b, o, none⟩) : LAt w' S' d v L := by
  obtain ⟨A, c, hv, hc, hL⟩ := h
  refine ⟨A, c, hv, hc, fun hl => ?_⟩
  obtain ⟨b, o, hA, hS, hj⟩ := hL hl
  have hlt : b < w.heap.size := by
    obtain ⟨u0, u1, u2, u3, u4, h0, _⟩ := hj 0 _ (List.getElem?_eq_getElem hl)
    exact World.block_lt_of_cell? w _ h0
  obtain ⟨hS', hcell⟩ := hk b hS hlt
  refine ⟨b, o, hA, hS', fun j a ha => ?_⟩
  obtain ⟨u0, u1, u2, u3, u4, h0, h1, h2, h3, h4, h5⟩ := hj j a ha
  exact ⟨u0, u1, u2, u3, u4, (hcell _).trans h0, (hcell _).trans h1, (hcell _).trans h2, (hcell _).trans h3, (hcell _).trans h4, VAt.move hk d _ _ h5⟩

/-- Two values side by side in a block of their own. -/
theorem lat_two {W : World} {S : Nat → Prop} {r g : Nat} {t : TypeId} {x0 x1 x2 x3 x4 z0 z1 z2 z3 z4 : Value} {V0 V1 : Val} (h : W.heap[g]? = some (.cells #[x0, x1, x2, x3, x4, z0, z1, z2, z3, z4] t (0, 0))) (hS : S g)
    (h0 : VAt W S r (.agg #[x0, x1, x2, x3, x4]) V0) (h1 : VAt W S r (.agg #[z0, z1, z2, z3, z4]) V1) : LAt W S r (.slice (some ⟨g, 0, none⟩) 2 2) [V0, V1] := by
  refine ⟨_, 2, rfl, Nat.le_refl _, fun _ => ⟨g, 0, rfl, hS, fun j a ha => ?_⟩⟩
  match j, ha with
  | 0, ha =>
    obtain rfl : V0 = a := by simpa using ha
    exact ⟨x0, x1, x2, x3, x4, by simp [World.cell?, h], by simp [World.cell?, h], by simp [World.cell?, h], by simp [World.cell?, h], by simp [World.cell?, h], h0⟩
  | 1, ha =>
    obtain rfl : V1 = a := by simpa using ha
    exact ⟨z0, z1, z2, z3, z4, by simp [World.cell?, h], by simp [World.cell?, h], by simp [World.cell?, h], by simp [World.cell?, h], by simp [World.cell?, h], h1⟩
  | j + 2, ha => simp at ha
/-- One value in a block of its own. -/
theorem lat_one {W : World} {S : Nat → Prop} {r g : Nat} {t : TypeId} {x0 x1 x2 x3 x4 : Value} {V0 : Val} (h : W.heap[g]? = some (.cells #[x0, x1, x2, x3, x4] t (0, 0))) (hS : S g)
    (h0 : VAt W S r (.agg #[x0, x1, x2, x3, x4]) V0) : LAt W S r (.slice (some ⟨g, 0, none⟩) 1 1) [V0] := by
  refine ⟨_, 1, rfl, Nat.le_refl _, fun _ => ⟨g, 0, rfl, hS, fun j a ha => ?_⟩⟩
  match j, ha with
  | 0, ha =>
    obtain rfl : V0 = a := by simpa using ha
    exact ⟨x0, x1, x2, x3, x4, by simp [World.cell?, h], by simp [World.cell?, h], by simp [World.cell?, h], by simp [World.cell?, h], by simp [World.cell?, h], h0⟩
  | j + 1, ha => simp at ha

/-- What the reader answers with: a value, or a fault. -/
def ROut {α : Type} (R : Nat) (A : Option Addr) (c : Nat) (l : List UInt8) (ok : World → (Nat → Prop) → Value → α → Prop) (junk : Value → Prop) (w : World) (e : Ending) (w' : World) : Nat × Option (α × Nat) → Prop
  | (m', none) => (∃ v, junk v ∧ e = .returned (.tuple #[v, .bool false])) ∧ Only R w w' ∧ ∃ sz', Rdr w' R A c l m' sz'
  | (m', some (V, sz')) => (∃ v, ok w' (fun b => w.heap.size ≤ b) v V ∧ e = .returned (.tuple #[v, .bool true])) ∧ Only R w w' ∧ Rdr w' R A c l m' sz' ∧ sz' ≤ 2000

theorem out_bad {α : Type} {R : Nat} {A : Option Addr} {c : Nat} {l : List UInt8} {ok : World → (Nat → Prop) → Value → α → Prop} {junk : Value → Prop} {w W : World} {v : Value} {m' sz' : Nat} (hv : junk v) (ho : Only R w W) (hr : Only R w W → Rdr W R A c l m' sz') : ROut R A c l ok junk w (.returned (.tuple #[v, .bool false])) W (m', none) := ⟨⟨v, hv, rfl⟩, ho, sz', hr ho⟩
theorem out_good {α : Type} {R : Nat} {A : Option Addr} {c : Nat} {l : List UInt8} {ok : World → (Nat → Prop) → Value → α → Prop} {junk : Value → Prop} {w W : World} {v : Value} {V : α} {m' sz' : Nat} (hv : ok W (fun b => w.heap.size ≤ b) v V) (ho : Only R w W) (hr : Only R w W → Rdr W R A c l m' sz') (hsz : sz' ≤ 2000) : ROut R A c l ok junk w (.returned (.tuple #[v, .bool true])) W (m', some (V, sz')) := ⟨⟨v, hv, rfl⟩, ho, hr ho, hsz⟩

def VOk (r : Nat) : Prop := ∀ (d : Nat) (S : Nat → Prop) (q R : Nat) (A : Option Addr) (c : Nat) (l : List UInt8) (m sz : Nat) (v : Value) (t : Ty) (w : World), r ≤ 6 → measureT r t = some q → TyAt w S d v t → (∀ b, S b → b ≠ R) → Rdr w R A c l m sz → sz ≤ 2000 →
    Calls Tryd.prog 19 #[.pointer (some ⟨R, 0, none⟩), v] w fun e w' => ROut R A c l (fun w' S v V => VAt w' S r v V) JunkV w e w' (getV r t l m sz)

set_option maxRecDepth 100000 in
set_option maxHeartbeats 2000000 in
theorem pair_any (r d q0 q1 : Nat) (S : Nat → Prop) (R : Nat) (A : Option Addr) (c : Nat) (l : List UInt8) (m sz : Nat) (v0 v1 : Value) (a0 a1 : Ty) (w : World) (hV : VOk r) (hr6 : r ≤ 6) (h0 : measureT r a0 = some q0) (h1 : measureT r a1 = some q1) (hT0 : TyAt w S d v0 a0) (hT1 : TyAt w S d v1 a1) (hS : ∀ b, S b → b ≠ R) (h : Rdr w R A c l m sz) (hsz : sz ≤ 2000) :
    Calls Tryd.prog 33 #[.pointer (some ⟨R, 0, none⟩), v0, v1] w fun e w' => ROut R A c l (fun w' S v V => LAt w' S r v V) JunkL w e w' (getP (getV r a0 l) (getV r a1 l) m sz) := by
  have HV := Lib.hid hV
  have H0 := Lib.hid h0
  have H1 := Lib.hid h1
  have HS := Lib.hid hS
  have hRl := h.lt
  have HR := Lib.hid h
  have HT0 := Lib.hid hT0
  have HT1 := Lib.hid hT1
  obtain ⟨A0, c0, rfl⟩ := hT0.form
  obtain ⟨A1, c1, rfl⟩ := hT1.form
  have hb2 := ((Below.refl w.heap.size w).alloc (Nat.le_refl _) (.cells #[.int .i64 a0.kind, .slice A0 a0.args.length c0] 38)).alloc (by simp) (.cells #[.int .i64 a1.kind, .slice A1 a1.args.length c1] 38)
  have hx1 : ((w.alloc (.cells #[.int .i64 a0.kind, .slice A0 a0.args.length c0] 38)).alloc (.cells #[.int .i64 a1.kind, .slice A1 a1.args.length c1] 38)).heap[w.heap.size + 1]? = some (.cells #[.int .i64 a1.kind, .slice A1 a1.args.length c1] 38 (0, 0)) := by simpa using heap_alloc_new (w.alloc (.cells #[.int .i64 a0.kind, .slice A0 a0.args.length c0] 38)) (.cells #[.int .i64 a1.kind, .slice A1 a1.args.length c1] 38)
  have HX1 := Lib.hid hx1
  clear hV h0 h1 hS h hT0 hT1 hx1
  go_enter Tryd.func33, Tryd.ntmps33
  go_wp2_with (fail)
  obtain ⟨w0, hw0⟩ : ∃ w0, w0 = (w.alloc (.cells #[.int .i64 a0.kind, .slice A0 a0.args.length c0] 38)).alloc (.cells #[.int .i64 a1.kind, .slice A1 a1.args.length c1] 38) := ⟨_, rfl⟩
  have hsz0 : w0.heap.size = w.heap.size + 2 := by rw [hw0]; simp
  rw [← hw0] at hb2 HX1
  rw [← hw0]
  clear hw0
  have hRw : R < w0.heap.size := by omega
  refine (HV.out d S q0 R A c l m sz _ a0 w0 hr6 H0.out (HT0.out.below hb2) HS.out (HR.out.below hb2) hsz).mono ?_
  cases hg : getV r a0 l m sz with
  | mk m' o =>
  cases o with
  | none =>
    have HF : Hid (getP (getV r a0 l) (getV r a1 l) m sz = (m', none)) := by show _ = _; simp only [getP, hg]
    clear hg
    rintro e w2 ⟨⟨v, ⟨kk, ii, ss, xx, yy, AA, nn, cc, rfl⟩, rfl⟩, ho, sz', hr⟩
    have HR2 := Lib.hid hr
    have hs2 := ho.size
    clear hr
    go_wp2_with (fail)
    go_ret2
    rw [HF.out]
    exact ⟨⟨_, ⟨_, _, _, rfl⟩, rfl⟩, only_alloc' ((Only.of_below hb2).trans ho) _, sz', HR2.out.below ((Below.refl _ _).alloc (Nat.le_refl _) _)⟩
  | some p =>
    obtain ⟨V0, sz1⟩ := p
    rintro e w2 ⟨⟨v, hv, rfl⟩, ho, hr, hsz1⟩
    have HG := Lib.hid hg
    clear hg
    obtain ⟨Av, cv, xv, yv, rfl, _, _⟩ := hv.form
    have HVA := Lib.hid hv
    have HR2 := Lib.hid hr
    have hs2 := ho.size
    have hy1 := (ho.block (w.heap.size + 1) (by omega) (by simp; omega)).trans HX1.out
    have e0 := cell2_0 hy1
    have e1 := cell2_1 hy1
    have hl1 := cell_lt hy1
    clear hv hr hy1
    go_wp2_with (fail)
    obtain ⟨w3, hw3⟩ : ∃ w3, w3 = w2.alloc (.cells #[.int .i64 V0.kind, .int .i64 V0.int, .string V0.text, .complex .f64 xv yv, .slice Av V0.list.length cv] 32) := ⟨_, rfl⟩
    have hn3 := heap_alloc_new w2 (.cells #[.int .i64 V0.kind, .int .i64 V0.int, .string V0.text, .complex .f64 xv yv, .slice Av V0.list.length cv] 32)
    have hb3 := (Below.refl w2.heap.size w2).alloc (Nat.le_refl _) (.cells #[.int .i64 V0.kind, .int .i64 V0.int, .string V0.text, .complex .f64 xv yv, .slice Av V0.list.length cv] 32)
    have hsz3 : w3.heap.size = w2.heap.size + 1 := by rw [hw3]; simp
    rw [← hw3] at hn3 hb3
    rw [← hw3]
    clear hw3 e0 e1
    have HN3 := Lib.hid hn3
    clear hn3
    have ho3 := ho.trans (Only.of_below hb3)
    have HT13 := Lib.hid ((HT1.out.below hb2).only HS.out ho3)
    have HR3 := Lib.hid (HR2.out.below hb3)
    refine (HV.out d S q1 R A c l m' sz1 _ a1 w3 hr6 H1.out HT13.out HS.out HR3.out hsz1).mono ?_
    cases hg2 : getV r a1 l m' sz1 with
    | mk m2 o2 =>
    cases o2 with
    | none =>
      have HF : Hid (getP (getV r a0 l) (getV r a1 l) m sz = (m2, none)) := by show _ = _; simp only [getP, HG.out, hg2]
      clear hg2
      rintro e w4 ⟨⟨v, ⟨kk, ii, ss, xx, yy, AA, nn, cc, rfl⟩, rfl⟩, ho4, sz', hr⟩
      have HR4 := Lib.hid hr
      have hs4 := ho4.size
      have hm4 := (ho4.block w2.heap.size (by omega) (by simp; omega)).trans HN3.out
      have d0 := cell5_0 hm4
      have d1 := cell5_1 hm4
      have d2 := cell5_2 hm4
      have d3 := cell5_3 hm4
      have d4 := cell5_4 hm4
      have hl4 := cell_lt hm4
      clear hr hm4
      go_wp2_with (fail)
      go_ret2
      rw [HF.out]
      refine ⟨⟨_, ⟨_, _, _, rfl⟩, rfl⟩, only_alloc' (only_alloc' ((Only.of_below hb2).trans (ho3.trans ho4)) _) _, sz', ?_⟩
      exact HR4.out.below (((Below.refl _ _).alloc (Nat.le_refl _) _).alloc (by simp) _)
    | some p =>
      obtain ⟨V1, sz2⟩ := p
      have HF : Hid (getP (getV r a0 l) (getV r a1 l) m sz = (m2, some ([V0, V1], sz2))) := by show _ = _; simp only [getP, HG.out, hg2]
      clear hg2
      rintro e w4 ⟨⟨v, hv, rfl⟩, ho4, hr, hsz2⟩
      obtain ⟨Aw, cw, xw, yw, rfl, _, _⟩ := hv.form
      have HVB := Lib.hid hv
      have HR4 := Lib.hid hr
      have hs4 := ho4.size
      have hm4 := (ho4.block w2.heap.size (by omega) (by simp; omega)).trans HN3.out
      have d0 := cell5_0 hm4
      have d1 := cell5_1 hm4
      have d2 := cell5_2 hm4
      have d3 := cell5_3 hm4
      have d4 := cell5_4 hm4
      have hl4 := cell_lt hm4
      clear hr hm4 hv
      go_wp2_with (fail)
      go_ret2
      rw [HF.out]
      have hbf := fun (o1 o2 : Obj) => ((Below.refl w4.heap.size w4).alloc (Nat.le_refl _) o1).alloc (by simp) o2
      refine ⟨⟨_, lat_two (g := w4.heap.size + 1) (by simpa using heap_alloc_new (w4.alloc _) _) (by show w.heap.size ≤ w4.heap.size + 1; omega) ?_ ?_, rfl⟩, only_alloc' (only_alloc' ((Only.of_below hb2).trans (ho3.trans ho4)) _) _, HR4.out.below (hbf _ _), hsz2⟩
      · exact (((HVA.out.below hb3).only (fun b hb => by have hb' : w0.heap.size ≤ b := hb; omega) ho4).below (hbf _ _)).wider fun b hb => by have hb' : w0.heap.size ≤ b := hb; show w.heap.size ≤ b; omega
      · exact (HVB.out.below (hbf _ _)).wider fun b hb => by have hb' : w3.heap.size ≤ b := hb; show w.heap.size ≤ b; omega
end Go.Proofs.YtbafplnolmdlnaaDoor
