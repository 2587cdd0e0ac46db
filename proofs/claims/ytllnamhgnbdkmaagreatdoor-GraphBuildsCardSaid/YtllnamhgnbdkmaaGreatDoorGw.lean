/-
Stage 11: Source, Each, Window, Group, Flatten, Sink.
-/
import Derived.Test.YtllnamhgnbdkmaaGreatDoorGu
set_option linter.unusedVariables false
set_option linter.unusedSimpArgs false
namespace Go.Proofs.YtllnamhgnbdkmaaGreatDoor
open Go.RowKit Go.Shelf Go.Sort
def madeN (n : Gn) : Gn := { n with ty := madeT n.ty }
theorem Bld.keep {w w' : World} {BB B : Nat} {C : Nat → Prop} {v : Value} {l : List Gn} {m : Int} (h : Bld w BB B C v l m) (hb : Below w.heap.size w w') : Bld w' BB B C v l m := ⟨bl_blk hb h.box, h.row.keep hb, h.low, Nat.le_trans h.top hb.size⟩
theorem KpB.pre {BB : Nat} {g : Option Nat} {w w1 w2 : World} (h : KpB BB g w1 w2) (hb : Below w.heap.size w w1) : KpB BB g w w2 := ⟨h.os.trans hb.os, h.tape.trans hb.tape, h.output.trans hb.output, Nat.le_trans hb.size h.size, fun b hl hne hno => (h.block b (Nat.lt_of_lt_of_le hl hb.size) hne hno).trans (hb.block b hl)⟩
def LayOut (w : World) (BB B : Nat) (C : Nat → Prop) (v : Value) (L : List Gn) (n : Gn) (e : Ending) (w' : World) : Prop := e = .returned (.int .i64 (L.length : Int)) ∧ (∃ v', Bld w' BB B C v' ((L ++ [madeN n]).take 33) ((L.length : Int) + 1)) ∧ KpB BB v.ownBlock w w'
theorem LayOut.pre {w w1 w' : World} {BB B : Nat} {C : Nat → Prop} {v : Value} {L : List Gn} {n : Gn} {e : Ending} (h : LayOut w1 BB B C v L n e w') (hb : Below w.heap.size w w1) : LayOut w BB B C v L n e w' := ⟨h.1, h.2.1, h.2.2.pre hb⟩
theorem Bld.form {w : World} {BB B : Nat} {C : Nat → Prop} {v : Value} {l : List Gn} {m : Int} (h : Bld w BB B C v l m) : ∃ A c, v = .slice A l.length c := h.row.form
theorem lay_any (w : World) (BB B : Nat) (v : Value) (L : List Gn) (n : Gn) (IA SA A : Option Addr) (ic sc c d : Nat) (S : Nat → Prop) (C : Nat → Prop) (hC : ∀ b, C b → b < w.heap.size) (hB : Bld w BB B C v (L.take 33) (L.length : Int)) (hm : L.length ≤ 1000) (h1 : IntsAt w S (.slice IA n.ins.length ic) n.ins) (h2 : IntsAt w S (.slice SA n.side.length sc) n.side) (h3 : TyAt w S d (.agg #[.int .i64 n.ty.kind, .slice A n.ty.args.length c]) n.ty) (hI : n.ins.length ≤ 1000000) (hS : n.side.length ≤ 1000000) (ht : n.text.length ≤ 1000000) (hG : Gk w) :
    Calls Tryz.prog 59 #[.pointer (some ⟨BB, 0, none⟩), .agg #[.int .i64 n.op, .slice IA n.ins.length ic, .slice SA n.side.length sc, .string ⟨n.text.toArray⟩, .int .i64 n.ty.kind, .slice A n.ty.args.length c, .int .i64 n.f0, .int .i64 n.f1, .int .i64 n.f2, .int .i64 n.f3, .int .i64 n.e, .int .i64 n.l, .int .i64 n.lt, .bool n.acc]] w fun e w' => LayOut w BB B C v L n e w' := by
  obtain ⟨GA, gc, rfl⟩ := hB.form
  rcases Nat.lt_or_ge L.length 33 with h33 | h33
  · have hl : (L.take 33).length ≤ 32 := by rw [List.length_take]; omega
    refine (lay_few w BB B GA gc (L.take 33) (L.length : Int) n IA SA A ic sc c d S C hC hB hl ⟨by omega, by omega⟩ h1 h2 h3 hI hS ht hG).mono ?_
    rintro e w' ⟨rfl, hb, hk⟩
    refine ⟨rfl, ?_, hk⟩
    rw [List.take_of_length_le (by rw [List.length_append, List.length_singleton]; omega)]
    rw [List.take_of_length_le (by omega)] at hb
    exact hb
  · have hl : 33 ≤ (L.take 33).length := by rw [List.length_take]; omega
    refine (lay_many w BB B GA gc (L.take 33) (L.length : Int) n IA SA A ic sc c d S C hC hB hl ⟨by omega, by omega⟩ h1 h2 h3 hI hS ht hG).mono ?_
    rintro e w' ⟨rfl, hb, hk⟩
    refine ⟨rfl, ?_, hk⟩
    rw [List.take_append_of_le_length h33]
    exact hb
theorem ints_one {W : World} {B i0 : Nat} {i : Int} {t : TypeId} (h : W.heap[B]? = some (.cells #[.int .i64 i] t (0, 0))) : IntsAt W (fun _ => True) (.slice (some ⟨B, 0, none⟩) 1 1) [i] :=
  ⟨some ⟨B, 0, none⟩, 1, rfl, Nat.le_refl _, (fun h => by cases h), fun _ => ⟨B, 0, rfl, trivial, cell_lt h, fun j x hx => by
    have hj := (List.getElem?_eq_some_iff.1 hx).1
    obtain rfl : j = 0 := by simpa using hj
    obtain rfl : i = x := by simpa using hx
    exact cellN (i := 0) h rfl⟩⟩
theorem IntsAt.any {W : World} {S : Nat → Prop} {v : Value} {l : List Int} (h : IntsAt W S v l) : IntsAt W (fun _ => True) v l := h.move fun b _ hl => ⟨trivial, hl, fun _ => rfl⟩
theorem ty_below {W W' : World} {S : Nat → Prop} {d : Nat} {v : Value} {t : Ty} (h : TyAt W S d v t) (hb : Below W.heap.size W W') : TyAt W' (fun _ => True) d v t := TyAt.move (fun b _ hl => ⟨trivial, fun o => World.cell?_of_block (hb.block b hl)⟩) _ _ _ h
set_option maxRecDepth 100000 in
set_option maxHeartbeats 4000000 in
theorem source_any (w : World) (BB B : Nat) (v : Value) (L : List Gn) (t : Ty) (A : Option Addr) (c d : Nat) (S : Nat → Prop) (C : Nat → Prop) (hC : ∀ b, C b → b < w.heap.size) (hB : Bld w BB B C v (L.take 33) (L.length : Int)) (hm : L.length ≤ 1000) (h3 : TyAt w S d (.agg #[.int .i64 t.kind, .slice A t.args.length c]) t) (hG : Gk w) :
    Calls Tryz.prog 29 #[.pointer (some ⟨BB, 0, none⟩), .agg #[.int .i64 t.kind, .slice A t.args.length c]] w fun e w' => LayOut w BB B C v L { gz 1 with ty := t } e w' := by
  have key : ∀ W (X : Option Addr), Below w.heap.size w W → Calls Tryz.prog 59 #[.pointer (some ⟨BB, 0, none⟩), ({ gz 1 with ty := t } : Gn).val none none A 0 0 c] W fun e w' => LayOut w BB B C v L { gz 1 with ty := t } e w' := fun W (X : Option Addr) hbw =>
    (lay_any W BB B v L { gz 1 with ty := t } none none A 0 0 c d (fun _ => True) C (fun b hc => Nat.lt_of_lt_of_le (hC b hc) hbw.size) (hB.keep hbw) hm (IntsAt.nil _ _) (IntsAt.nil _ _) (show TyAt W (fun _ => True) d (.agg #[.int .i64 t.kind, .slice A t.args.length c]) t from ty_below h3 hbw) (by simp [gz]) (by simp [gz]) (by simp [gz]) (hG.below hbw)).mono fun e w' h => h.pre hbw
  have KEY := Lib.hid key
  clear key hB hm hG
  go_enter Tryz.func29, Tryz.ntmps29
  go_wp2_with (fail)
  refine (KEY.out _ none (by repeat' (first | with_reducible exact Below.refl _ _ | with_reducible refine bl_al ?_ _))).mono ?_
  rintro e w3 ⟨rfl, hbd, hkp⟩
  have HBD := Lib.hid hbd
  have HKP := Lib.hid hkp
  clear hbd hkp
  go_wp2_with (fail)
  go_ret
  exact ⟨rfl, HBD.out, HKP.out⟩
set_option maxRecDepth 100000 in
set_option maxHeartbeats 4000000 in
theorem each_any (w : World) (BB B : Nat) (v : Value) (L : List Gn) (i : Int) (t : List UInt8) (l : List Int) (SA : Option Addr) (sc : Nat) (S : Nat → Prop) (C : Nat → Prop) (hC : ∀ b, C b → b < w.heap.size) (hB : Bld w BB B C v (L.take 33) (L.length : Int)) (hm : L.length ≤ 1000) (h2 : IntsAt w S (.slice SA l.length sc) l) (hS : l.length ≤ 1000000) (ht : t.length ≤ 1000000) (hG : Gk w) :
    Calls Tryz.prog 30 #[.pointer (some ⟨BB, 0, none⟩), .int .i64 i, .string ⟨t.toArray⟩, .slice SA l.length sc] w fun e w' => LayOut w BB B C v L { gz 2 with ins := [i], side := l, text := t } e w' := by
  have key : ∀ W X, Below w.heap.size w W → IntsAt W (fun _ => True) (.slice X 1 1) [i] → Calls Tryz.prog 59 #[.pointer (some ⟨BB, 0, none⟩), ({ gz 2 with ins := [i], side := l, text := t } : Gn).val X SA none 1 sc 0] W fun e w' => LayOut w BB B C v L { gz 2 with ins := [i], side := l, text := t } e w' := fun W (X : Option Addr) hbw h1 =>
    (lay_any W BB B v L { gz 2 with ins := [i], side := l, text := t } X SA none 1 sc 0 6 (fun _ => True) C (fun b hc => Nat.lt_of_lt_of_le (hC b hc) hbw.size) (hB.keep hbw) hm h1 (h2.below hbw).any (tyZ_at _ _) (by simp) hS ht (hG.below hbw)).mono fun e w' h => h.pre hbw
  have KEY := Lib.hid key
  clear key hB hm hG
  go_enter Tryz.func30, Tryz.ntmps30
  go_wp2_with (fail)
  refine (KEY.out _ _ (by repeat' (first | with_reducible exact Below.refl _ _ | with_reducible refine bl_al ?_ _)) (ints_one (i0 := 0) (by first | exact heap_alloc_new _ _ | exact alloc_old (heap_alloc_new _ _) | (simpa using heap_alloc_new (w.alloc _) _)))).mono ?_
  rintro e w3 ⟨rfl, hbd, hkp⟩
  have HBD := Lib.hid hbd
  have HKP := Lib.hid hkp
  clear hbd hkp
  go_wp2_with (fail)
  go_ret
  exact ⟨rfl, HBD.out, HKP.out⟩
set_option maxRecDepth 100000 in
set_option maxHeartbeats 4000000 in
theorem window_any (w : World) (BB B : Nat) (v : Value) (L : List Gn) (i f0 f1 f2 f3 : Int) (C : Nat → Prop) (hC : ∀ b, C b → b < w.heap.size) (hB : Bld w BB B C v (L.take 33) (L.length : Int)) (hm : L.length ≤ 1000)  (hG : Gk w) :
    Calls Tryz.prog 31 #[.pointer (some ⟨BB, 0, none⟩), .int .i64 i, .agg #[.int .i64 f0, .int .i64 f1, .int .i64 f2, .int .i64 f3]] w fun e w' => LayOut w BB B C v L { gz 3 with ins := [i], f0 := f0, f1 := f1, f2 := f2, f3 := f3 } e w' := by
  have key : ∀ W X, Below w.heap.size w W → IntsAt W (fun _ => True) (.slice X 1 1) [i] → Calls Tryz.prog 59 #[.pointer (some ⟨BB, 0, none⟩), ({ gz 3 with ins := [i], f0 := f0, f1 := f1, f2 := f2, f3 := f3 } : Gn).val X none none 1 0 0] W fun e w' => LayOut w BB B C v L { gz 3 with ins := [i], f0 := f0, f1 := f1, f2 := f2, f3 := f3 } e w' := fun W (X : Option Addr) hbw h1 =>
    (lay_any W BB B v L { gz 3 with ins := [i], f0 := f0, f1 := f1, f2 := f2, f3 := f3 } X none none 1 0 0 6 (fun _ => True) C (fun b hc => Nat.lt_of_lt_of_le (hC b hc) hbw.size) (hB.keep hbw) hm h1 (IntsAt.nil _ _) (tyZ_at _ _) (by simp) (by simp [gz]) (by simp [gz]) (hG.below hbw)).mono fun e w' h => h.pre hbw
  have KEY := Lib.hid key
  clear key hB hm hG
  go_enter Tryz.func31, Tryz.ntmps31
  go_wp2_with (fail)
  refine (KEY.out _ _ (by repeat' (first | with_reducible exact Below.refl _ _ | with_reducible refine bl_al ?_ _)) (ints_one (i0 := 0) (by first | exact heap_alloc_new _ _ | exact alloc_old (heap_alloc_new _ _) | (simpa using heap_alloc_new (w.alloc _) _)))).mono ?_
  rintro e w3 ⟨rfl, hbd, hkp⟩
  have HBD := Lib.hid hbd
  have HKP := Lib.hid hkp
  clear hbd hkp
  go_wp2_with (fail)
  go_ret
  exact ⟨rfl, HBD.out, HKP.out⟩
set_option maxRecDepth 100000 in
set_option maxHeartbeats 4000000 in
theorem group_any (w : World) (BB B : Nat) (v : Value) (L : List Gn) (i : Int) (t : List UInt8) (e0 l0 t0 : Int) (a0 : Bool) (C : Nat → Prop) (hC : ∀ b, C b → b < w.heap.size) (hB : Bld w BB B C v (L.take 33) (L.length : Int)) (hm : L.length ≤ 1000) (ht : t.length ≤ 1000000) (hG : Gk w) :
    Calls Tryz.prog 32 #[.pointer (some ⟨BB, 0, none⟩), .int .i64 i, .string ⟨t.toArray⟩, .agg #[.int .i64 e0, .int .i64 l0, .int .i64 t0, .bool a0]] w fun e w' => LayOut w BB B C v L { gz 4 with ins := [i], text := t, e := e0, l := l0, lt := t0, acc := a0 } e w' := by
  have key : ∀ W X, Below w.heap.size w W → IntsAt W (fun _ => True) (.slice X 1 1) [i] → Calls Tryz.prog 59 #[.pointer (some ⟨BB, 0, none⟩), ({ gz 4 with ins := [i], text := t, e := e0, l := l0, lt := t0, acc := a0 } : Gn).val X none none 1 0 0] W fun e w' => LayOut w BB B C v L { gz 4 with ins := [i], text := t, e := e0, l := l0, lt := t0, acc := a0 } e w' := fun W (X : Option Addr) hbw h1 =>
    (lay_any W BB B v L { gz 4 with ins := [i], text := t, e := e0, l := l0, lt := t0, acc := a0 } X none none 1 0 0 6 (fun _ => True) C (fun b hc => Nat.lt_of_lt_of_le (hC b hc) hbw.size) (hB.keep hbw) hm h1 (IntsAt.nil _ _) (tyZ_at _ _) (by simp) (by simp [gz]) ht (hG.below hbw)).mono fun e w' h => h.pre hbw
  have KEY := Lib.hid key
  clear key hB hm hG
  go_enter Tryz.func32, Tryz.ntmps32
  go_wp2_with (fail)
  refine (KEY.out _ _ (by repeat' (first | with_reducible exact Below.refl _ _ | with_reducible refine bl_al ?_ _)) (ints_one (i0 := 0) (by first | exact heap_alloc_new _ _ | exact alloc_old (heap_alloc_new _ _) | (simpa using heap_alloc_new (w.alloc _) _)))).mono ?_
  rintro e w3 ⟨rfl, hbd, hkp⟩
  have HBD := Lib.hid hbd
  have HKP := Lib.hid hkp
  clear hbd hkp
  go_wp2_with (fail)
  go_ret
  exact ⟨rfl, HBD.out, HKP.out⟩
set_option maxRecDepth 100000 in
set_option maxHeartbeats 4000000 in
theorem flatten_any (w : World) (BB B : Nat) (v : Value) (L : List Gn) (l : List Int) (IA : Option Addr) (ic : Nat) (S : Nat → Prop) (C : Nat → Prop) (hC : ∀ b, C b → b < w.heap.size) (hB : Bld w BB B C v (L.take 33) (L.length : Int)) (hm : L.length ≤ 1000) (h1 : IntsAt w S (.slice IA l.length ic) l) (hI : l.length ≤ 1000000) (hG : Gk w) :
    Calls Tryz.prog 33 #[.pointer (some ⟨BB, 0, none⟩), .slice IA l.length ic] w fun e w' => LayOut w BB B C v L { gz 5 with ins := l } e w' := by
  have key : ∀ W (X : Option Addr), Below w.heap.size w W → Calls Tryz.prog 59 #[.pointer (some ⟨BB, 0, none⟩), ({ gz 5 with ins := l } : Gn).val IA none none ic 0 0] W fun e w' => LayOut w BB B C v L { gz 5 with ins := l } e w' := fun W (X : Option Addr) hbw =>
    (lay_any W BB B v L { gz 5 with ins := l } IA none none ic 0 0 6 (fun _ => True) C (fun b hc => Nat.lt_of_lt_of_le (hC b hc) hbw.size) (hB.keep hbw) hm (h1.below hbw).any (IntsAt.nil _ _) (tyZ_at _ _) hI (by simp [gz]) (by simp [gz]) (hG.below hbw)).mono fun e w' h => h.pre hbw
  have KEY := Lib.hid key
  clear key hB hm hG
  go_enter Tryz.func33, Tryz.ntmps33
  go_wp2_with (fail)
  refine (KEY.out _ none (by repeat' (first | with_reducible exact Below.refl _ _ | with_reducible refine bl_al ?_ _))).mono ?_
  rintro e w3 ⟨rfl, hbd, hkp⟩
  have HBD := Lib.hid hbd
  have HKP := Lib.hid hkp
  clear hbd hkp
  go_wp2_with (fail)
  go_ret
  exact ⟨rfl, HBD.out, HKP.out⟩
set_option maxRecDepth 100000 in
set_option maxHeartbeats 4000000 in
theorem sink_any (w : World) (BB B : Nat) (v : Value) (L : List Gn) (i : Int) (C : Nat → Prop) (hC : ∀ b, C b → b < w.heap.size) (hB : Bld w BB B C v (L.take 33) (L.length : Int)) (hm : L.length ≤ 1000)  (hG : Gk w) :
    Calls Tryz.prog 34 #[.pointer (some ⟨BB, 0, none⟩), .int .i64 i] w fun e w' => LayOut w BB B C v L { gz 6 with ins := [i] } e w' := by
  have key : ∀ W X, Below w.heap.size w W → IntsAt W (fun _ => True) (.slice X 1 1) [i] → Calls Tryz.prog 59 #[.pointer (some ⟨BB, 0, none⟩), ({ gz 6 with ins := [i] } : Gn).val X none none 1 0 0] W fun e w' => LayOut w BB B C v L { gz 6 with ins := [i] } e w' := fun W (X : Option Addr) hbw h1 =>
    (lay_any W BB B v L { gz 6 with ins := [i] } X none none 1 0 0 6 (fun _ => True) C (fun b hc => Nat.lt_of_lt_of_le (hC b hc) hbw.size) (hB.keep hbw) hm h1 (IntsAt.nil _ _) (tyZ_at _ _) (by simp) (by simp [gz]) (by simp [gz]) (hG.below hbw)).mono fun e w' h => h.pre hbw
  have KEY := Lib.hid key
  clear key hB hm hG
  go_enter Tryz.func34, Tryz.ntmps34
  go_wp2_with (fail)
  refine (KEY.out _ _ (by repeat' (first | with_reducible exact Below.refl _ _ | with_reducible refine bl_al ?_ _)) (ints_one (i0 := 0) (by first | exact heap_alloc_new _ _ | exact alloc_old (heap_alloc_new _ _) | (simpa using heap_alloc_new (w.alloc _) _)))).mono ?_
  rintro e w3 ⟨rfl, hbd, hkp⟩
  have HBD := Lib.hid hbd
  have HKP := Lib.hid hkp
  clear hbd hkp
  go_wp2_with (fail)
  go_ret
  exact ⟨rfl, HBD.out, HKP.out⟩
end Go.Proofs.YtllnamhgnbdkmaaGreatDoor
set_option linter.unusedVariables false
set_option linter.unusedSimpArgs false
namespace Go.Proofs.YtllnamhgnbdkmaaGreatDoor
open Go.RowKit Go.Shelf Go.Sort
set_option maxRecDepth 100000 in
theorem new_any (w : World) :
    Calls Tryz.prog 27 #[] w fun e w' => e = .returned (.pointer (some ⟨w.heap.size, 0, none⟩)) ∧ Bld w' w.heap.size (w.heap.size + 1) (fun _ => False) (.slice none 0 0) [] 0 ∧ Below w.heap.size w w' := by
  go_enter Tryz.func27, Tryz.ntmps27
  go_wp2_with (fail)
  go_ret
  exact ⟨rfl, ⟨heap_alloc_new w _, NsC.nil _ _ _ _, Nat.lt_succ_self _, by simp⟩, bl_al (Below.refl _ _) _⟩
theorem step_append_own {P : Program} {ops : Array Oper} {o : Oper} {a : Act} {w : World} {K : Act → World → Prop} {Q : Exit → Act → World → Prop} {E : Prop} (hgd : o.guard = none) (s x : Operand) (t : TypeId)
    (ho : o.op = .call { callee := .builtin .append, args := #[s, x], argTypes := #[t, t] })
    (base : Nat) (e : TypeId) (i : TypeInfo) (z : Value) (size bytes : Nat) (ht : P.underlying t = some (.slice e)) (hi : P.info? e = some i) (hz : i.zero = some z)
    (hsize : i.size = size) (hby : i.bytes = bytes) (hzs : z.cells.size = size) (hsz : 0 < size)
    (v : Value) (n : Nat) (xs : List Value) (hs : a.eval s = v) (hown : w.ownsRow base e size v n xs)
    (ad : Addr) (m c : Nat) (news : List Value) (hx : a.eval x = .slice (some ad) m c) (hl : news.length = m * size) (hnews : ∀ j u, news[j]? = some u → w.cell? (ad.add j) = some u) (h1 : ∀ u ∈ news, u.oneCell' = true)
    (h63 : n + m ≤ maxLen) (hbytes : (n + m) * bytes ≤ 140737488355328) (hbase : base ≤ w.heap.size)
    (h : ∀ v' w', w'.ownsRow base e size v' (n + m) (xs ++ news) → w.grownBy w' v.ownBlock → (v'.ownBlock = v.ownBlock ∨ v'.ownBlock = some w.heap.size) → K (a.put o.dst v') w') :
    if Region.wanted o (yielded ops a.tmps) = true then Oper.wp P o a w K Q else E := by
  have hw : Region.wanted o (yielded ops a.tmps) = true := by simp [Region.wanted, hgd]
  rw [if_pos hw]
  obtain ⟨v', w', hr, h2, h3, h4, h5⟩ := run_append_own_at (P := P) w base t o.type e i z size bytes ht hi hz hsize hby hzs hsz v n xs hown ad m c news hl hnews h1 h63 hbytes hbase
  unfold Oper.wp execOp
  simp only [ho, resolve, invoke, builtin, Sem.run_bind, Sem.run_pure, Result.andThen_ok, List.map_toArray, List.map_cons, List.map_nil, hs, hx, hr]
  exact h v' w' h2 h3 h5
def DoneOut (w w' : World) (e : Ending) (l : List Gn) : Prop := (∃ v, e = .returned (.tuple #[.agg #[v], .int .i64 ((chkAll l).1 : Int), .int .i64 (chkAll l).2]) ∧ GsAt w' (fun b => w.heap.size ≤ b) 6 v (if (chkAll l).2 = 0 then l.map madeN else [])) ∧ Below w.heap.size w w'
set_option maxRecDepth 100000 in
set_option maxHeartbeats 8000000 in
theorem done_any (w : World) (BB B : Nat) (C : Nat → Prop) (v : Value) (l : List Gn) (m : Int) (hB : Bld w BB B C v l m) (hl : l.length ≤ 100) (hf : ∀ n ∈ l, n.ins.length ≤ 1000000 ∧ n.side.length ≤ 1000000 ∧ n.text.length ≤ 1000000) (hG : Gk w) :
    Calls Tryz.prog 35 #[.pointer (some ⟨BB, 0, none⟩)] w fun e w' => DoneOut w w' e l := by
  obtain ⟨GA, gc, rfl⟩ := hB.form
  have HCK : Hid (∀ W, Below w.heap.size w W → Calls Tryz.prog 13 #[.agg #[.slice GA l.length gc]] W fun e w' => e = .returned (.tuple #[.int .i64 ((chkAll l).1 : Int), .int .i64 (chkAll l).2]) ∧ Below W.heap.size W w') := Lib.hid fun W hb => checkAll_any W (fun b => B ≤ b) 6 _ l (hB.row.gs.below hb) (fun n hn => ⟨(hf n hn).1, (hf n hn).2.1⟩) (by omega) (hG.below hb)
  have b0 := cellN (i := 0) (x := .slice GA l.length gc) hB.box rfl
  have b1 := cellN (i := 1) (x := .int .i64 m) hB.box rfl
  have bl := cell_lt hB.box
  have HB := Lib.hid hB
  have HG := Lib.hid hG
  have HF := Lib.hid hf
  clear hB hG hf
  go_enter Tryz.func35, Tryz.ntmps35
  by_cases hz : (chkAll l).2 ≠ 0
  · have e2 : ((chkAll l).2 != 0) = true := by simp [hz]
    have HZ := Lib.hid hz
    clear hz
    go_wp2_with (first
      | (go_at_call 13; (with_reducible refine (HCK.out _ (by repeat' (first | with_reducible exact Below.refl _ _ | with_reducible refine bl_al ?_ _))).mono ?_); rintro e w2 ⟨rfl, hb2⟩; have hx2 := bl_blk hb2 (heap_alloc_new w _); have p0 := cellN (i := 0) (x := .slice none 0 0) hx2 rfl; have p1 := frozN (i := 0) hx2; have p2 := cell_lt hx2; have HX2 := Lib.hid hx2; have HB2 := Lib.hid (bl_tr (bl_al (Below.refl _ _) _) hb2); clear hb2 hx2)
      | fail)
    refine bodyPost_ret (v := .tuple #[.agg #[.slice none 0 0], .int .i64 ((chkAll l).1 : Int), .int .i64 (chkAll l).2]) (results_parse Tryz.results35 rfl rfl rfl (box_set HX2.out)) rfl ?_
    refine ⟨⟨_, rfl, ?_⟩, bl_set HB2.out (Nat.le_refl _)⟩
    rw [if_neg HZ.out]
    exact gs_nil _ _ _
  · have hz : (chkAll l).2 = 0 := Decidable.not_not.1 hz
    have e2 : ((chkAll l).2 != 0) = false := by simp [hz]
    have HZ := Lib.hid hz
    clear hz
    go_wp2_with (first
      | (go_at_call 13; (with_reducible refine (HCK.out _ (by repeat' (first | with_reducible exact Below.refl _ _ | with_reducible refine bl_al ?_ _))).mono ?_); rintro e w2 ⟨rfl, hb2⟩; have hx2 := bl_blk hb2 (heap_alloc_new w _); have HX2 := Lib.hid hx2; have HB2 := Lib.hid (bl_tr (bl_al (Below.refl _ _) _) hb2); have hbx := bl_blk HB2.out HB.out.box; have c0 := cellN (i := 0) (x := .slice GA l.length gc) hbx rfl; have cl := cell_lt hbx; clear hb2 hx2 hbx)
      | fail)
    clear b0 b1 bl
    have HIF : Hid (∃ i : TypeInfo, Tryz.prog.info? 83 = some i ∧ i.zero = some (.agg #[.int .i64 0, .slice none 0 0, .slice none 0 0, .string ⟨#[]⟩, .int .i64 0, .slice none 0 0, .int .i64 0, .int .i64 0, .int .i64 0, .int .i64 0, .int .i64 0, .int .i64 0, .int .i64 0, .bool false]) ∧ i.size = 14 ∧ i.bytes = 168) := Lib.hid (by
      obtain ⟨i0, hi, hq0, hq1, hq2⟩ := info_parts infoN
      exact ⟨i0, hi, hq0, hq1, hq2⟩)
    have HLR := Lib.hid (HB.out.row.gs)
    have hwz : w.heap.size + 1 ≤ w2.heap.size := by have := cell_lt HX2.out; omega
    go_loopw [26] (fun iv wr => ∃ (j : Nat) (PA : Option Addr) (pc : Nat), iv = .int .i64 (j : Int) ∧ j ≤ l.length ∧ Hid (NsO wr w2.heap.size 6 (.slice PA j pc) ((l.take j).map madeN)) ∧ Hid (Below w.heap.size w wr) ∧ w2.heap.size ≤ wr.heap.size ∧ Hid (wr.heap[w.heap.size]? = some (.cells #[.slice PA j pc] 27 (0, 0)))) (fun iv _ => l.length - (intOf iv).toNat)
    case atStart => exact ⟨0, none, 0, rfl, Nat.zero_le _, Lib.hid (NsO.nil _ _ _), HB2, Nat.le_refl _, HX2⟩
    case round =>
      obtain ⟨j, PA, pc, rfl, hj, HO, HBR, hsz, HP⟩ := hrel
      by_cases hlt : j < l.length
      · have hjl : (j : Int) < (l.length : Int) := by omega
        have hat := HLR.out.at hlt
        have htk : l.take (j + 1) = l.take j ++ [l[j]] := by rw [List.take_add_one, List.getElem?_eq_getElem hlt]; rfl
        have hfn := HF.out _ (List.getElem_mem hlt)
        have HTK := Lib.hid htk
        clear htk
        generalize l[j] = n at *
        obtain ⟨b, o, rfl, hbl, hS, IA, SA, A, ic, sc, c, hN, a0, a1, a2, a3, a4, a5, a6, a7, a8, a9, a10, a11, a12, a13⟩ := hat
        have a0 := (HBR.out.cell (p := ⟨b, o + j * 14, none⟩) hbl).trans a0
        have a1 := (HBR.out.cell (p := ⟨b, o + j * 14 + 1, none⟩) hbl).trans a1
        have a2 := (HBR.out.cell (p := ⟨b, o + j * 14 + 2, none⟩) hbl).trans a2
        have a3 := (HBR.out.cell (p := ⟨b, o + j * 14 + 3, none⟩) hbl).trans a3
        have a4 := (HBR.out.cell (p := ⟨b, o + j * 14 + 4, none⟩) hbl).trans a4
        have a5 := (HBR.out.cell (p := ⟨b, o + j * 14 + 5, none⟩) hbl).trans a5
        have a6 := (HBR.out.cell (p := ⟨b, o + j * 14 + 6, none⟩) hbl).trans a6
        have a7 := (HBR.out.cell (p := ⟨b, o + j * 14 + 7, none⟩) hbl).trans a7
        have a8 := (HBR.out.cell (p := ⟨b, o + j * 14 + 8, none⟩) hbl).trans a8
        have a9 := (HBR.out.cell (p := ⟨b, o + j * 14 + 9, none⟩) hbl).trans a9
        have a10 := (HBR.out.cell (p := ⟨b, o + j * 14 + 10, none⟩) hbl).trans a10
        have a11 := (HBR.out.cell (p := ⟨b, o + j * 14 + 11, none⟩) hbl).trans a11
        have a12 := (HBR.out.cell (p := ⟨b, o + j * 14 + 12, none⟩) hbl).trans a12
        have a13 := (HBR.out.cell (p := ⟨b, o + j * 14 + 13, none⟩) hbl).trans a13
        have hgi : IntsAt w (fun b => B ≤ b) (.slice IA n.ins.length ic) n.ins ∧ IntsAt w (fun b => B ≤ b) (.slice SA n.side.length sc) n.side ∧ TyAt w (fun b => B ≤ b) 6 (.agg #[.int .i64 n.ty.kind, .slice A n.ty.args.length c]) n.ty := by
          obtain ⟨_, _, _, _, _, _, e, h1, h2, h3⟩ := hN
          unfold Gn.val at e
          injection e with e
          simp only [Array.mk.injEq, List.cons.injEq, Value.slice.injEq, and_true, true_and] at e
          obtain ⟨⟨rfl, rfl⟩, ⟨rfl, rfl⟩, rfl, rfl⟩ := e
          exact ⟨h1, h2, h3⟩
        have HFR : Hid (∀ W, Below w.heap.size w W → Calls Tryz.prog 60 #[.agg #[.int .i64 n.op, .slice IA n.ins.length ic, .slice SA n.side.length sc, .string ⟨n.text.toArray⟩, .int .i64 n.ty.kind, .slice A n.ty.args.length c, .int .i64 n.f0, .int .i64 n.f1, .int .i64 n.f2, .int .i64 n.f3, .int .i64 n.e, .int .i64 n.l, .int .i64 n.lt, .bool n.acc]] W fun e w' => (∃ I1 S1 A1 k1 k2 k3, e = .returned (Gn.val (madeN n) I1 S1 A1 k1 k2 k3) ∧ GnAt w' (fun b => W.heap.size ≤ b) 6 (Gn.val (madeN n) I1 S1 A1 k1 k2 k3) (madeN n)) ∧ Below W.heap.size W w') := Lib.hid fun W hb =>
          fresh_any W (fun _ => True) 6 n IA SA A ic sc c (hgi.1.below hb).any (hgi.2.1.below hb).any (ty_below hgi.2.2 hb) hfn.1 hfn.2.1 hfn.2.2 (HG.out.below hb)
        clear hN hgi hS hfn
        go_upto_region 7 with (fail)
        clear a0 a1 a2 a3 a4 a5 a6 a7 a8 a9 a10 a11 a12 a13
        have hnx := heap_alloc_new wr (.cells #[.int .i64 n.op, .slice IA n.ins.length ic, .slice SA n.side.length sc, .string ⟨n.text.toArray⟩, .int .i64 n.ty.kind, .slice A n.ty.args.length c, .int .i64 n.f0, .int .i64 n.f1, .int .i64 n.f2, .int .i64 n.f3, .int .i64 n.e, .int .i64 n.l, .int .i64 n.lt, .bool n.acc] 83)
        have hpx := alloc_old (o := .cells #[.int .i64 n.op, .slice IA n.ins.length ic, .slice SA n.side.length sc, .string ⟨n.text.toArray⟩, .int .i64 n.ty.kind, .slice A n.ty.args.length c, .int .i64 n.f0, .int .i64 n.f1, .int .i64 n.f2, .int .i64 n.f3, .int .i64 n.e, .int .i64 n.l, .int .i64 n.lt, .bool n.acc] 83) HP.out
        have HB1 := Lib.hid (show Below w.heap.size w (wr.alloc (.cells #[.int .i64 n.op, .slice IA n.ins.length ic, .slice SA n.side.length sc, .string ⟨n.text.toArray⟩, .int .i64 n.ty.kind, .slice A n.ty.args.length c, .int .i64 n.f0, .int .i64 n.f1, .int .i64 n.f2, .int .i64 n.f3, .int .i64 n.e, .int .i64 n.l, .int .i64 n.lt, .bool n.acc] 83)) from HBR.out.trans ((bl_al (Below.refl _ _) _).mono HBR.out.size))
        have HO1 := Lib.hid (HO.out.keep (bl_al (Below.refl _ _) (.cells #[.int .i64 n.op, .slice IA n.ins.length ic, .slice SA n.side.length sc, .string ⟨n.text.toArray⟩, .int .i64 n.ty.kind, .slice A n.ty.args.length c, .int .i64 n.f0, .int .i64 n.f1, .int .i64 n.f2, .int .i64 n.f3, .int .i64 n.e, .int .i64 n.l, .int .i64 n.lt, .bool n.acc] 83)))
        have hz1 : w2.heap.size ≤ (wr.alloc (.cells #[.int .i64 n.op, .slice IA n.ins.length ic, .slice SA n.side.length sc, .string ⟨n.text.toArray⟩, .int .i64 n.ty.kind, .slice A n.ty.args.length c, .int .i64 n.f0, .int .i64 n.f1, .int .i64 n.f2, .int .i64 n.f3, .int .i64 n.e, .int .i64 n.l, .int .i64 n.lt, .bool n.acc] 83)).heap.size := by rw [World.size_alloc]; omega
        generalize wr.alloc (.cells #[.int .i64 n.op, .slice IA n.ins.length ic, .slice SA n.side.length sc, .string ⟨n.text.toArray⟩, .int .i64 n.ty.kind, .slice A n.ty.args.length c, .int .i64 n.f0, .int .i64 n.f1, .int .i64 n.f2, .int .i64 n.f3, .int .i64 n.e, .int .i64 n.l, .int .i64 n.lt, .bool n.acc] 83) = W1 at *
        have HPX := Lib.hid hpx
        have p0 := cellN (i := 0) (x := .slice PA j pc) hpx rfl
        have p1 := frozN (i := 0) hpx
        have p2 := cell_lt hpx
        have n0 := cellN (i := 0) (x := .int .i64 n.op) hnx rfl
        have n1 := cellN (i := 1) (x := .slice IA n.ins.length ic) hnx rfl
        have n2 := cellN (i := 2) (x := .slice SA n.side.length sc) hnx rfl
        have n3 := cellN (i := 3) (x := .string ⟨n.text.toArray⟩) hnx rfl
        have n4 := cellN (i := 4) (x := .int .i64 n.ty.kind) hnx rfl
        have n5 := cellN (i := 5) (x := .slice A n.ty.args.length c) hnx rfl
        have n6 := cellN (i := 6) (x := .int .i64 n.f0) hnx rfl
        have n7 := cellN (i := 7) (x := .int .i64 n.f1) hnx rfl
        have n8 := cellN (i := 8) (x := .int .i64 n.f2) hnx rfl
        have n9 := cellN (i := 9) (x := .int .i64 n.f3) hnx rfl
        have n10 := cellN (i := 10) (x := .int .i64 n.e) hnx rfl
        have n11 := cellN (i := 11) (x := .int .i64 n.l) hnx rfl
        have n12 := cellN (i := 12) (x := .int .i64 n.lt) hnx rfl
        have n13 := cellN (i := 13) (x := .bool n.acc) hnx rfl
        have nl := cell_lt hnx
        clear hnx hpx
        have HLJ : Hid (((l.take j).map madeN).length = j) := Lib.hid (by rw [List.length_map, List.length_take]; omega)
        obtain ⟨i0, hi, hq0, hq1, hq2⟩ := HIF.out
        go_region_law (first
          | (refine step_append_own rfl (.tmp 31) (.tmp 34) 25 rfl w2.heap.size 83 i0 (.agg #[.int .i64 0, .slice none 0 0, .slice none 0 0, .string ⟨#[]⟩, .int .i64 0, .slice none 0 0, .int .i64 0, .int .i64 0, .int .i64 0, .int .i64 0, .int .i64 0, .int .i64 0, .int .i64 0, .bool false]) 14 168 Tryz.underlying25 hi hq0 hq1 hq2 rfl (by decide) (.slice PA j pc) j xs (by simp [Act.eval, Act.put]) HOX.out ⟨w3.heap.size, 0, none⟩ 1 1 [.int .i64 n.op, .slice I1 n.ins.length k1, .slice S1 n.side.length k2, .string ⟨n.text.toArray⟩, .int .i64 (madeT n.ty).kind, .slice A1 (madeT n.ty).args.length k3, .int .i64 n.f0, .int .i64 n.f1, .int .i64 n.f2, .int .i64 n.f3, .int .i64 n.e, .int .i64 n.l, .int .i64 n.lt, .bool n.acc] (by simp [Act.eval, Act.put]) rfl (World.news_of_block (cs := #[.int .i64 n.op, .slice I1 n.ins.length k1, .slice S1 n.side.length k2, .string ⟨n.text.toArray⟩, .int .i64 (madeT n.ty).kind, .slice A1 (madeT n.ty).args.length k3, .int .i64 n.f0, .int .i64 n.f1, .int .i64 n.f2, .int .i64 n.f3, .int .i64 n.e, .int .i64 n.l, .int .i64 n.lt, .bool n.acc]) (t := 83) (fr := (0, 0)) (heap_alloc_new w3 _)) (by simp [Value.oneCell']) (by unfold maxLen; omega) (by omega) (by rw [World.size_alloc]; omega) ?_; intro v7 w7 hown7 hg7 hat7; obtain ⟨G7, g7, rfl⟩ := own_slice hown7; have hpx7 := (hg7.block w.heap.size (by rw [World.size_alloc]; have := cell_lt HPX3.out; omega) (fun e => by have := (HOX.out.lt w.heap.size e.symm).1; omega)).trans (alloc_old HPX3.out); have HPX7 := Lib.hid hpx7; have HOW7 := Lib.hid hown7; have HG7 := Lib.hid hg7; have HA7 := Lib.hid hat7; have q0 := cellN (i := 0) (x := .slice PA j pc) hpx7 rfl; have q1 := frozN (i := 0) hpx7; have q2 := cell_lt hpx7; clear hown7 hg7 hat7 hpx7)
          | (go_simp; go_at_call 60; (with_reducible refine (HFR.out _ ?_).mono ?_); (focus exact (by repeat' (first | with_reducible exact HB1.out | with_reducible refine bl_dr ?_))); rintro e w3 ⟨⟨I1, S1, A1, k1, k2, k3, rfl, hgn⟩, hb3⟩; unfold Gn.val madeN; have HB3 : Hid (Below W1.heap.size W1 w3) := Lib.hid (bl_tr (by repeat' (first | with_reducible exact Below.refl _ _ | with_reducible refine bl_dr ?_)) hb3); have HGN := Lib.hid hgn; have hpx3 := bl_blk HB3.out HPX.out; have HPX3 := Lib.hid hpx3; have e0 := cellN (i := 0) (x := .slice PA j pc) hpx3 rfl; have ez := frozN (i := 0) hpx3; have el := cell_lt hpx3; have hz3 : w2.heap.size ≤ w3.heap.size := Nat.le_trans hz1 HB3.out.size; obtain ⟨xs, hox, hnn⟩ := (HO1.out.keep HB3.out).keep (bl_al (Below.refl _ _) (.cells #[.int .i64 n.op, .slice I1 n.ins.length k1, .slice S1 n.side.length k2, .string ⟨n.text.toArray⟩, .int .i64 (madeT n.ty).kind, .slice A1 (madeT n.ty).args.length k3, .int .i64 n.f0, .int .i64 n.f1, .int .i64 n.f2, .int .i64 n.f3, .int .i64 n.e, .int .i64 n.l, .int .i64 n.lt, .bool n.acc] 83)); rw [HLJ.out] at hox; have HOX := Lib.hid hox; have HNN := Lib.hid hnn; clear hgn hb3 hpx3 hox hnn)
          | fail)
        all_goals (
          have hrow : NsO w7 w2.heap.size 6 (.slice G7 (j + 1) g7) ((l.take (j + 1)).map madeN) := by
            rw [HTK.out, List.map_append]
            refine NsO.more (w := w3.alloc (.cells #[.int .i64 n.op, .slice I1 n.ins.length k1, .slice S1 n.side.length k2, .string ⟨n.text.toArray⟩, .int .i64 (madeT n.ty).kind, .slice A1 (madeT n.ty).args.length k3, .int .i64 n.f0, .int .i64 n.f1, .int .i64 n.f2, .int .i64 n.f3, .int .i64 n.e, .int .i64 n.l, .int .i64 n.lt, .bool n.acc] 83)) (n := madeN n) (by rw [HLJ.out]; exact HOX.out) HNN.out ((HGN.out.below (bl_al (Below.refl _ _) (.cells #[.int .i64 n.op, .slice I1 n.ins.length k1, .slice S1 n.side.length k2, .string ⟨n.text.toArray⟩, .int .i64 (madeT n.ty).kind, .slice A1 (madeT n.ty).args.length k3, .int .i64 n.f0, .int .i64 n.f1, .int .i64 n.f2, .int .i64 n.f3, .int .i64 n.e, .int .i64 n.l, .int .i64 n.lt, .bool n.acc] 83))).move fun b hb hl => ?_) (by rw [HLJ.out]; exact HOW7.out) HG7.out (by rcases HA7.out with h | h; exact Or.inl h; exact Or.inr ⟨_, h, Nat.le_refl _⟩)
            have h7 : W1.heap.size ≤ b := hb
            refine ⟨⟨by omega, fun e => ?_⟩, hl, fun o => rfl⟩
            have := (HO1.out.low e.symm).2
            omega
          have hbb : Below w.heap.size w w7 := by
            have hb0 : Below w.heap.size w (w3.alloc (.cells #[.int .i64 n.op, .slice I1 n.ins.length k1, .slice S1 n.side.length k2, .string ⟨n.text.toArray⟩, .int .i64 (madeT n.ty).kind, .slice A1 (madeT n.ty).args.length k3, .int .i64 n.f0, .int .i64 n.f1, .int .i64 n.f2, .int .i64 n.f3, .int .i64 n.e, .int .i64 n.l, .int .i64 n.lt, .bool n.acc] 83)) := bl_al (HB1.out.trans (HB3.out.mono HB1.out.size)) _
            exact ⟨HG7.out.os.trans hb0.os, HG7.out.tape.trans hb0.tape, HG7.out.output.trans hb0.output, Nat.le_trans hb0.size HG7.out.size, fun i hi => (HG7.out.block i (Nat.lt_of_lt_of_le hi hb0.size) (fun e => by have := (HOX.out.lt i e.symm).1; omega)).trans (hb0.block i hi)⟩
          have HR7 := Lib.hid (hrow.far (i := 0) (u := .slice G7 (j + 1) g7) (p := w.heap.size) (by omega))
          have HBB := Lib.hid (bl_set (i := 0) (v := .slice G7 (j + 1) g7) hbb (Nat.le_refl _))
          have hz7 : w2.heap.size ≤ w7.heap.size := Nat.le_trans hz3 (Nat.le_trans (by rw [World.size_alloc]; omega) HG7.out.size)
          clear hrow hbb
          go_wp2_with (fail)
          go_roundw
          case rel => exact ⟨j + 1, G7, g7, by go_num, by omega, HR7, HBB, by rw [World.size_setCell]; exact hz7, Lib.hid (set_block (i := 0) HPX7.out)⟩
          case measure => simp [intOf]; omega)
      · obtain rfl : j = l.length := by omega
        have hjl : ¬ ((l.length : Int) < (l.length : Int)) := by omega
        have r0 := cellN (i := 0) (x := .slice PA l.length pc) HP.out rfl
        have r1 := frozN (i := 0) HP.out
        have r2 := cell_lt HP.out
        go_wp2_with (fail)
        refine bodyPost_ret (v := .tuple #[.agg #[.slice PA l.length pc], .int .i64 0, .int .i64 0]) (results_parse Tryz.results35 rfl rfl rfl (box_set (u := .slice PA l.length pc) HP.out)) rfl ?_
        have hck := (okG HZ.out).2
        have hfin := HO.out
        rw [List.take_length] at hfin
        unfold DoneOut
        rw [hck, if_pos rfl]
        exact ⟨⟨_, rfl, by
          have h9 := (hfin.far (i := 0) (u := .slice PA l.length pc) (p := w.heap.size) (by omega)).gs
          exact h9.move fun b hb hl => ⟨by have h8 : w2.heap.size ≤ b := hb; omega, hl, fun o => rfl⟩⟩, bl_set HBR.out (Nat.le_refl _)⟩
end Go.Proofs.YtllnamhgnbdkmaaGreatDoor
