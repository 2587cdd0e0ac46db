import Derived.Test.YtaecndmncpfpfaaGreatDoorKd
import Derived.Test.YtaecndmncpfpfaaGreatDoorRc1
import Derived.Lib.UnsafeStr
import Derived.Test.YtaecndmncpfpfaaGreatDoorRc3
import Derived.Test.YtaecndmncpfpfaaGreatDoorRc7
namespace Go.Proofs.YtaecndmncpfpfaaGreatDoor
open Go.RowKit
open Knd (BFr)
def WrAt (w : World) (b : Nat) (p : Value) (bs : List UInt8) (k : Int) : Prop :=
 ∃ v, w.heap[b]? = some (.cells #[p, v, .int .i64 k] 145 (0, 0)) ∧ w.ownsRow b 5 1 v bs.length (bcl bs) ∧ v.ownBlock ≠ some b
def Wr (w : World) (b : Nat) (bs : List UInt8) (k : Int) : Prop := WrAt w b (.pointer none) bs k ∨ WrAt w b (.pointer (some ⟨b, 0, none⟩)) bs k
theorem Wr.at {w : World} {b : Nat} {bs : List UInt8} {k : Int} (h : Wr w b bs k) : ∃ p, WrAt w b p bs k := h.elim (fun x => ⟨_, x⟩) (fun x => ⟨_, x⟩)
theorem Wr.lt {w : World} {b : Nat} {bs : List UInt8} {k : Int} (h : Wr w b bs k) : b < w.heap.size := by
 obtain ⟨p, v, hb, _⟩ := h.at
 exact zC hb
theorem WrAt.kept {w w' : World} {b : Nat} {p : Value} {bs : List UInt8} {k : Int} (h : WrAt w b p bs k) (hb : Below w.heap.size w w') : WrAt w' b p bs k := by
 obtain ⟨v, h2, h3, h4⟩ := h
 have hg : w.grownBy w' none := ⟨hb.os, hb.tape, hb.output, hb.size, fun k hk _ => hb.block k hk⟩
 exact ⟨v, (hb.block b (zC h2)).trans h2, h3.kept hg (by cases hv : v.ownBlock <;> simp), h4⟩
theorem Wr.below {w w' : World} {b : Nat} {bs : List UInt8} {k : Int} (h : Wr w b bs k) (hb : Below w.heap.size w w') : Wr w' b bs k := h.elim (fun x => .inl (x.kept hb)) (fun x => .inr (x.kept hb))
theorem wr_set {w : World} {b : Nat} {p : Value} {bs : List UInt8} {k : Int} (h : WrAt w b p bs k) (q : Value) : WrAt (w.setCell ⟨b, 0, none⟩ q) b q bs k := by
 obtain ⟨v, h2, h3, h4⟩ := h
 refine ⟨v, by simp [World.setCell, Array.getElem?_modify, h2], ?_, h4⟩
 exact h3.kept (row := some b) ⟨rfl, rfl, rfl, by simp [World.setCell], fun k _ hk => Below.heap_setCell _ _ _ _ (fun e => hk (by simp [e]))⟩ (Or.inr h4)
theorem wr_count {w : World} {b : Nat} {p : Value} {bs : List UInt8} {k : Int} (h : WrAt w b p bs k) (j : Int) : WrAt (w.setCell ⟨b, 2, none⟩ (.int .i64 j)) b p bs j := by
 obtain ⟨v, h2, h3, h4⟩ := h
 refine ⟨v, by simp [World.setCell, Array.getElem?_modify, h2], ?_, h4⟩
 exact h3.kept (row := some b) ⟨rfl, rfl, rfl, by simp [World.setCell], fun k _ hk => Below.heap_setCell _ _ _ _ (fun e => hk (by simp [e]))⟩ (Or.inr h4)
theorem Wr.count {w : World} {b : Nat} {bs : List UInt8} {k : Int} (h : Wr w b bs k) (j : Int) : Wr (w.setCell ⟨b, 2, none⟩ (.int .i64 j)) b bs j := h.elim (fun x => .inl (wr_count x j)) (fun x => .inr (wr_count x j))
theorem own_ne {w : World} {B b : Nat} {v : Value} {n : Nat} {xs : List Value} {cs : Array Value} {fr : Nat × Nat} (hown : w.ownsRow B 5 1 v n xs) (hb : w.heap[b]? = some (.cells cs 145 fr)) : v.ownBlock ≠ some b := by
 intro h
 obtain ⟨c, fz, e⟩ := Knd.own_kind hown b h
 rw [hb] at e
 injection e with e
 injection e with _ e _
 exact absurd e (by decide)
theorem wr_put {w : World} {b : Nat} {p v v' : Value} {bs : List UInt8} {k : Int} (hb : w.heap[b]? = some (.cells #[p, v, .int .i64 k] 145 (0, 0))) (hown : w.ownsRow b 5 1 v' bs.length (bcl bs)) : WrAt (w.setCell ⟨b, 1, none⟩ v') b p bs k := by
 have hne := own_ne hown hb
 refine ⟨v', by simp [World.setCell, Array.getElem?_modify, hb], ?_, hne⟩
 exact hown.kept (row := some b) ⟨rfl, rfl, rfl, by simp [World.setCell], fun k _ hk => Below.heap_setCell _ _ _ _ (fun e => hk (by simp [e]))⟩ (Or.inr hne)
theorem lies61 : liesAt Tryz.prog Tryz.prog.depth 145 (3 / Tryz.prog.cellsOf 145) 0 143 1 = true := by kernel_rfl
set_option maxRecDepth 100000 in
theorem wrCheck_new (b : Nat) (v u : Value) (w : World) (h : w.heap[b]? = some (.cells #[.pointer none, v, u] 145 (0, 0))) :
    Calls Tryz.prog 151 #[.pointer (some ⟨b, 0, none⟩)] w fun e w' => e = .returned (.tuple #[]) ∧ w' = w.setCell ⟨b, 0, none⟩ (.pointer (some ⟨b, 0, none⟩)) := by
 have c0 := cell3_0 h
 have f0 := zB h 0
 have hsh : w.shape? b = some (145, 3) := by simp [World.shape?, h]
 obtain ⟨j, hj, hjs⟩ := Option.map_eq_some_iff.1 Knd.size68
 go_enter Tryz.func151, Tryz.ntmps151
 go_wp2
 rw [Lib.run_to_unsafe w ⟨b, 0, none⟩ Tryz.underlying141 Tryz.underlying246 hj (by rw [hjs]; decide) hsh (Nat.zero_lt_succ 2)]
 simp only [Result.andThen]
 rw [Oper.upon_value]
 go_wp2
 rw [run_callFunc_extern Tryz.func171 (by kernel_rfl) (by kernel_rfl) (by kernel_rfl) (e := Extern.AbiNoEscape.same) (by kernel_rfl)]
 rw [Lib.run_noEscape]
 simp only [Result.andThen]
 rw [Oper.upon_value]
 go_wp2
 rw [Lib.run_from_unsafe w ⟨b, 0, none⟩ Tryz.underlying246 Tryz.underlying141 hj hsh lies61]
 simp only [Result.andThen]
 rw [Oper.upon_value]
 go_wp2
 go_end0
 exact ⟨rfl, rfl⟩
set_option maxRecDepth 100000 in
theorem wrCheck_used (b : Nat) (v u : Value) (w : World) (h : w.heap[b]? = some (.cells #[.pointer (some ⟨b, 0, none⟩), v, u] 145 (0, 0))) :
    Calls Tryz.prog 151 #[.pointer (some ⟨b, 0, none⟩)] w fun e w' => e = .returned (.tuple #[]) ∧ w' = w := by
 have c0 := cell3_0 h
 obtain ⟨j, hj, hjs⟩ := Option.map_eq_some_iff.1 Knd.size68
 go_enter Tryz.func151, Tryz.ntmps151
 go_wp2
 rw [Lib.run_neq_ptr_same w _ Tryz.underlying141 hj]
 go_wp2
 go_end0
 exact ⟨rfl, rfl⟩
theorem wrCheck_any (b : Nat) (bs : List UInt8) (k : Int) (w : World) (h : Wr w b bs k) :
    Calls Tryz.prog 151 #[.pointer (some ⟨b, 0, none⟩)] w fun e w' => e = .returned (.tuple #[]) ∧ WrAt w' b (.pointer (some ⟨b, 0, none⟩)) bs k ∧ BFr b w w' := by
 rcases h with h | h
 · obtain ⟨v, hb, _⟩ := id h
   refine (wrCheck_new b v _ w hb).mono ?_
   rintro e w' ⟨rfl, rfl⟩
   exact ⟨rfl, wr_set h _, (BFr.refl b w).set_ _ _⟩
 · obtain ⟨v, hb, _⟩ := id h
   refine (wrCheck_used b v _ w hb).mono ?_
   rintro e w' ⟨rfl, rfl⟩
   exact ⟨rfl, h, BFr.refl b _⟩
theorem bcl_append (l m : List UInt8) : bcl (l ++ m) = bcl l ++ bcl m := by simp [bcl]
theorem bcl_str (s : ByteArray) : Lib.strCells s = bcl (bl s) := by simp [bcl, bl, Lib.strCells]
set_option maxRecDepth 100000 in
theorem wrString_any (b : Nat) (bs : List UInt8) (k : Int) (s : ByteArray) (w : World) (h : Wr w b bs k) (hl : bs.length + s.size ≤ 1000000000) :
    Calls Tryz.prog 123 #[.pointer (some ⟨b, 0, none⟩), .string s] w fun e w' => e = .returned (.tuple #[.int .i64 s.size, .nilIface]) ∧ Wr w' b (bs ++ bl s) k ∧ BFr b w w' := by
 obtain ⟨i0, hi, hq0, hq1, hq2⟩ := info_parts Knd.info5
 go_enter Tryz.func123, Tryz.ntmps123
 go_wp2_with (fail)
 refine (wrCheck_any b bs k w h).mono ?_
 rintro e w1 ⟨rfl, ⟨v, hb, hown, hne⟩, hf⟩
 have c0 := cell3_0 hb
 have c1 := yF hb
 have f0 := zB hb 0
 have f1 := zB hb 1
 have hbl := zC hb
 go_wp2_with (at_builtin; refine Lib.wpList_append_own_string _ rfl _ _ 120 9 rfl b 5 i0 Tryz.underlying120 Tryz.underlying9 hi hq0 hq1 hq2 v bs.length (bcl bs) rfl hown s rfl (by unfold maxLen; omega) (by omega) (by omega) ?_; intro v' w2 hown2 hg2 _; obtain ⟨A2, c2, rfl⟩ := own_slice hown2; have hb2 := (hg2.block b hbl (fun e => hne e.symm)).trans hb; have d1 := yF hb2; have g1 := zB hb2 1)
 go_ret2
 have hlen : (bs ++ bl s).length = bs.length + s.size := by simp [zT]
 refine ⟨rfl, .inr (wr_put hb2 (by rw [hlen, bcl_append, ← bcl_str]; exact hown2)), hf.trans (Knd.bfr_put (BFr.refl b w1) hown hg2 (by omega))⟩
set_option maxRecDepth 100000 in
theorem wrByte_any (b : Nat) (bs : List UInt8) (k : Int) (c : UInt8) (w : World) (h : Wr w b bs k) (hl : bs.length ≤ 1000000000) :
    Calls Tryz.prog 153 #[.pointer (some ⟨b, 0, none⟩), .int .u8 (c.toNat : Int)] w fun e w' => e = .returned .nilIface ∧ Wr w' b (bs ++ [c]) k ∧ BFr b w w' := by
 obtain ⟨i0, hi, hq0, hq1, hq2⟩ := info_parts Knd.info5
 go_enter Tryz.func153, Tryz.ntmps153
 go_wp2_with (fail)
 refine (wrCheck_any b bs k w h).mono ?_
 rintro e w1 ⟨rfl, ⟨v, hb, hown, hne⟩, hf⟩
 have c0 := cell3_0 hb
 have c1 := yF hb
 have f0 := zB hb 0
 have f1 := zB hb 1
 have hbl := zC hb
 go_wp2_with (at_builtin; refine wpList_append_own _ rfl _ _ 120 rfl b 5 i0 (.int .u8 0) 1 1 Tryz.underlying120 hi hq0 hq1 hq2 rfl (by decide) v bs.length (bcl bs) rfl (hown.alloc _) ⟨w1.heap.size, 0, none⟩ 1 1 [.int .u8 (c.toNat : Int)] rfl rfl (cell_one_new' _ _ _ _ rfl) (by intro u hu; simp at hu; subst hu; rfl) (by unfold maxLen; omega) (by omega) (by simp; omega) ?_; intro v' w2 hown2 hg2 _; obtain ⟨A2, c2, rfl⟩ := own_slice hown2; have hb2 := (hg2.block b (by simp; omega) (fun e => hne e.symm)).trans ((Below.heap_alloc w1 _ b hbl).trans hb); have d1 := yF hb2; have g1 := zB hb2 1)
 go_ret
 have hlen : (bs ++ [c]).length = bs.length + 1 := by simp
 refine ⟨rfl, .inr (wr_put hb2 (by rw [hlen, bcl_snoc]; exact hown2)), hf.trans (Knd.bfr_put ((BFr.refl b w1).alloc (by omega) _) (hown.alloc _) hg2 (by simp; omega))⟩
set_option maxRecDepth 100000 in
theorem wrLen_any (b : Nat) (bs : List UInt8) (k : Int) (w : World) (h : Wr w b bs k) :
    Calls Tryz.prog 82 #[.pointer (some ⟨b, 0, none⟩)] w fun e w' => e = .returned (.int .i64 (bs.length : Int)) ∧ w' = w := by
 obtain ⟨p, v, hb, hown, _⟩ := h.at
 obtain ⟨A, c, rfl⟩ := own_slice hown
 have c1 := yF hb
 go_enter Tryz.func82, Tryz.ntmps82
 go_wp2
 go_ret
 exact ⟨rfl, rfl⟩
end Go.Proofs.YtaecndmncpfpfaaGreatDoor
namespace Go.Proofs.YtaecndmncpfpfaaGreatDoor
open Go.RowKit
def bindP {α β : Type} (q : Nat × Option α) (g : Nat → α → Nat × Option β) : Nat × Option β := match q with
 | (m, none) => (m, none)
 | (m, some x) => g m x
def intW : List UInt8 := [105, 110, 116]
def textW : List UInt8 := [116, 101, 120, 116, 95, 111, 102]
def numN (l : List UInt8) (m : Nat) : Nat × Option Nd := ((numS l m).1, if (numS l m).2.2 then some (.mk intW (numV (rdB l m 45) (numS l m).2.1) [] ty0 []) else none)
def strN (l : List UInt8) (m : Nat) : Nat × Option Nd := bindP (strS l m) fun m' t => (m', some (.mk textW 0 t ty0 []))
section
variable (kp : List UInt8 → Nat × Option Ty)
def typR (l : List UInt8) (m : Nat) : Nat × Option Ty := match kp (l.drop m) with
 | (_, some t) => (l.length, some t)
 | (k, none) => (m + k, (kp ((l.drop m).take k)).2)
def digR (l : List UInt8) (m : Nat) : Nat × Option Int := if isDig (lkB l m) then (m + 1, some (((lkB l m).toNat : Int) - 48)) else (m, none)
def partR (f : Nat → Nat × Option Nd) (l : List UInt8) (p : UInt8) (m : Nat) (nd : Nd) : Nat × Option Nd :=
 if p = 100 then bindP (digR l (skip l m)) fun m' i => (m', some (.mk nd.op i nd.text nd.ty nd.kids))
 else if p = 116 then bindP (typR kp l (skip l m)) fun m' t => (m', some (.mk nd.op nd.int nd.text t nd.kids))
 else if p = 110 then bindP (nameR l (skip l m)) fun m' k => (m', some (.mk nd.op nd.int nd.text nd.ty (nd.kids ++ [k])))
 else bindP (f (skip l m)) fun m' k => (m', some (.mk nd.op nd.int nd.text nd.ty (nd.kids ++ [k])))
def markR (l : List UInt8) (m : Nat) (b : UInt8) : Nat × Option Unit := if rdB l (skip l m) b then (skip l m + 1, some ()) else (skip l m, none)
def yN (f : Nat → Nat × Option Nd) (l : List UInt8) (least : Nat) : List UInt8 → Nat → UInt8 → Nat → Nd → Nat × Option Nd
 | [], _, _, m, _ => (m, none)
 | p :: ps, i, mark, m, nd => bindP (markR l m mark) fun m1 _ => bindP (partR kp f l p m1 nd) fun m2 nd' =>
     if least ≤ i + 1 then (match markR l m2 41 with
      | (m3, some _) => (m3, some nd')
      | (m3, none) => yN f l least ps (i + 1) 44 m3 nd')
     else yN f l least ps (i + 1) 44 m2 nd'
def exprR (l : List UInt8) : Nat → Nat → Nat × Option Nd
 | 0, m => (m, none)
 | r + 1, m =>
   if decide (lkB l m = 45) || isDig (lkB l m) then numN l m
   else if lkB l m = 34 then strN l m
   else if isLet (lkB l m) then (match wdP (spel l m) with
    | none => (m + (spel l m).length, some (nameN (spel l m)))
    | some (p, least) => if hasB p 101 && decide (r = 0) then (m + (spel l m).length, none)
      else if p = [] then (m + (spel l m).length, some (.mk (spel l m) 0 [] ty0 []))
      else yN kp (exprR l r) l least p 0 40 (m + (spel l m).length) (.mk (spel l m) 0 [] ty0 []))
   else (m, none)
def parseR (l : List UInt8) : Nat × Option Nd := bindP (exprR kp l 24 (skip l 0)) fun m n => if skip l m < l.length then (skip l m, none) else (skip l m, some n)
end
def Lo {α : Type} (l l' : List UInt8) (p p' : Nat × α) : Prop := (∀ j, j < p.1 → l'[j]? = l[j]?) → (l'[p.1]? = l[p.1]? → p' = p) ∧ (l'[p.1]? = none → p'.1 = p.1)
def In {α : Type} (l : List UInt8) (m : Nat) (p : Nat × α) : Prop := m ≤ p.1 ∧ p.1 ≤ l.length
theorem none_le {l : List UInt8} {j : Nat} (h : l[j]? = none) : l.length ≤ j := List.getElem?_eq_none_iff.1 h
theorem In.bind {α β : Type} {l : List UInt8} {m : Nat} {q : Nat × Option α} {g : Nat → α → Nat × Option β} (hq : In l m q) (hg : ∀ m' x, m' ≤ l.length → In l m' (g m' x)) : In l m (bindP q g) := by
 match q, hq with
 | (k, none), hq => exact hq
 | (k, some x), hq =>
   have := hg k x hq.2
   exact ⟨Nat.le_trans hq.1 this.1, this.2⟩
theorem Lo.bind {α β : Type} {l l' : List UInt8} {q q' : Nat × Option α} {g g' : Nat → α → Nat × Option β} (hq : Lo l l' q q') (hq' : q'.1 ≤ l'.length) (hql : q.1 ≤ l.length)
    (hg : ∀ x, q.2 = some x → Lo l l' (g q.1 x) (g' q.1 x)) (hi : ∀ m x, m ≤ l.length → In l m (g m x)) (hi' : ∀ m x, m ≤ l'.length → In l' m (g' m x)) : Lo l l' (bindP q g) (bindP q' g') := by
 intro hs
 have hle : q.1 ≤ (bindP q g).1 := by
  match q, hql with
  | (k, none), _ => exact Nat.le_refl _
  | (k, some x), hql => exact (hi k x hql).1
 have hq0 := hq fun j hj => hs j (Nat.lt_of_lt_of_le hj hle)
 by_cases hsame : l'[q.1]? = l[q.1]?
 · have he := hq0.1 hsame
   subst he
   match q', hg, hs with
   | (k, none), _, _ => exact ⟨fun _ => rfl, fun _ => rfl⟩
   | (k, some x), hg, hs => exact hg x rfl hs
 · have hpe : (bindP q g).1 = q.1 := by
     rcases Nat.lt_or_ge q.1 (bindP q g).1 with h | h
     · exact absurd (hs _ h) hsame
     · omega
   rw [hpe]
   refine ⟨fun h => absurd h hsame, fun h => ?_⟩
   have he := hq0.2 h
   have hl := none_le h
   match q', he, hq' with
   | (k, none), he, _ => exact he
   | (k, some x), he, hq' =>
     have := hi' k x hq'
     have h1 := this.1
     have h2 := this.2
     have he' : k = q.1 := he
     show (g' k x).1 = q.1
     omega
theorem Lo.done {α : Type} {l l' : List UInt8} {m : Nat} {x x' : α} (h : l'[m]? = l[m]? → x' = x) : Lo l l' (m, x) (m, x') := fun _ => ⟨fun e => by rw [h e], fun _ => rfl⟩
end Go.Proofs.YtaecndmncpfpfaaGreatDoor
namespace Go.Proofs.YtaecndmncpfpfaaGreatDoor
open Go.RowKit
def nameW : List UInt8 := [110, 97, 109, 101]
def bareN (i : Int) (t : List UInt8) (ty : Ty) (kids : List Nd) : Bool := decide (i = 0) && (decide (t = []) && (decide (ty.kind = 0) && (decide (ty.args.length = 0) && decide (kids.length = 0))))
def hexD (i : Nat) : UInt8 := if i < 10 then UInt8.ofNat (48 + i) else UInt8.ofNat (87 + i)
def quoB (b : UInt8) : List UInt8 := if isPl b then [b] else [92, hexD (b.toNat / 16), hexD (b.toNat % 16)]
def quoL (t : List UInt8) : List UInt8 := t.flatMap quoB
def quoS (t : List UInt8) : List UInt8 := 34 :: (quoL t ++ [34])
abbrev StW := List UInt8 × Nat
def yD (f : Nd → StW → Option StW) : List Nd → List UInt8 → UInt8 → StW → Option StW
 | [], _, _, s => some (s.1 ++ [41], s.2)
 | _ :: _, [], _, _ => none
 | n :: l, p :: ps, mark, s => if p = 110 ∧ n.op ≠ nameW then none else match f n (s.1 ++ [mark], s.2) with
   | none => none
   | some s' => yD f l ps 44 s'
def wordP (f : Nd → StW → Option StW) (p : List UInt8) (least : Nat) (n : Nd) (s : StW) : Option StW :=
 if hasB p 101 then (if n.kids.length < least ∨ p.length < n.kids.length then none else (yD f n.kids p 40 (s.1 ++ n.op, s.2)).bind fun s' => if bareN n.int n.text n.ty [] then some s' else none)
 else if hasB p 100 then (if n.int < 0 ∨ 9 < n.int then none else if bareN 0 n.text n.ty n.kids then some (s.1 ++ n.op ++ ([40] ++ Lib.itoa n.int ++ [41]), s.2) else none)
 else if hasB p 116 then (if (Knd.zH 6 n.ty).isSome then (if bareN n.int n.text ty0 n.kids then some (s.1 ++ n.op ++ ([40] ++ Knd.textT 6 n.ty ++ [41]), s.2) else none) else none)
 else if bareN n.int n.text n.ty n.kids then some (s.1 ++ n.op, s.2) else none
def wordW (f : Nd → StW → Option StW) (n : Nd) (s : StW) : Option StW := match wdP n.op with
 | none => none
 | some (p, least) => wordP f p least n s
def zJ : Nat → Nd → StW → Option StW
 | 0, _, _ => none
 | r + 1, n, s => if 4096 < s.1.length then none
   else if n.op = intW then (if bareN 0 n.text n.ty n.kids then some (s.1 ++ Lib.itoa n.int, s.2 + 1) else none)
   else if n.op = textW then (if 256 < n.text.length then none else if bareN n.int [] n.ty n.kids then some (s.1 ++ quoS n.text, s.2 + 1) else none)
   else if n.op = nameW then (if isNm n.text then (if bareN n.int [] n.ty n.kids then some (s.1 ++ n.text, s.2 + 1) else none) else none)
   else wordW (zJ r) n (s.1, s.2 + 1)
def showW (n : Nd) : Option StW := match zJ 24 n ([], 0) with
 | none => none
 | some s => if 4096 < s.1.length then none else some s
theorem nDig_le : ∀ (k u : Nat), u < 10 ^ (k + 1) → Lib.nDigits u ≤ k + 1
 | 0, u, h => by rw [Lib.nDigits_small (by simpa using h)]; omega
 | k + 1, u, h => by
   by_cases h10 : u < 10
   · rw [Lib.nDigits_small h10]; omega
   · rw [Lib.nDigits_big h10]
     rw [Nat.pow_succ] at h
     have := nDig_le k (u / 10) (by omega)
     omega
theorem digits_le (n : Nat) (h : n < 10 ^ 20) : (Lib.decDigits n).length ≤ 20 := by
 rw [Lib.decDigits_length]
 exact nDig_le 19 n h
theorem itoa_le (n : Int) (h0 : -9223372036854775808 ≤ n) (h1 : n ≤ 9223372036854775807) : (Lib.itoa n).length ≤ 21 := by
 unfold Lib.itoa
 split
 · rw [List.length_cons]
   have := digits_le n.natAbs (by omega)
   omega
 · have := digits_le n.toNat (by omega)
   omega
theorem quoL_le : ∀ t : List UInt8, (quoL t).length ≤ 3 * t.length
 | [] => by simp [quoL]
 | b :: t => by
   have := quoL_le t
   have hb : (quoB b).length ≤ 3 := by unfold quoB; split <;> simp
   unfold quoL at *
   rw [List.flatMap_cons, List.length_append, List.length_cons]
   omega
theorem name_le {t : List UInt8} (h : isNm t = true) : t.length ≤ 16 := by
 unfold isNm at h
 simp only [Bool.and_eq_true, decide_eq_true_eq] at h
 have := nmL_le t
 omega
def RgN : Nat → Nd → Prop
 | 0, _ => True
 | r + 1, n => -9223372036854775808 ≤ n.int ∧ n.int ≤ 9223372036854775807 ∧ n.text.length ≤ 1000000 ∧ ∀ k ∈ n.kids, RgN r k
theorem kidsW_len {f : Nd → StW → Option StW} {F : Nat} : ∀ (l : List Nd) (p : List UInt8) (mark : UInt8) (s s' : StW), (∀ n ∈ l, ∀ s s', f n s = some s' → s'.1.length ≤ F) → s.1.length ≤ F → yD f l p mark s = some s' → s'.1.length ≤ F + 1
 | [], _, _, s, s', _, hs, h => by
   simp only [yD, Option.some.injEq] at h
   subst h
   simp
   omega
 | _ :: _, [], _, _, _, _, _, h => by simp [yD] at h
 | n :: l, p :: ps, mark, s, s', hf, hs, h => by
   unfold yD at h
   split at h
   · cases h
   · split at h
     · cases h
     · rename_i s2 h2
       exact kidsW_len l ps 44 s2 s' (fun m hm => hf m (List.mem_cons_of_mem _ hm)) (hf n (List.mem_cons_self ..) _ _ h2) h
theorem wdN_len : (wdL.all fun x => decide (x.1.length ≤ 16)) = true := by decide +kernel
theorem wd_le {t : List UInt8} {x : List UInt8 × Nat} (h : wdP t = some x) : t.length ≤ 16 := by
 unfold wdP at h
 by_cases hl : t = listW
 · rw [hl]; decide
 · rw [if_neg hl] at h
   cases hf : wdL.find? (fun x => decide (x.1 = t)) with
   | none => rw [hf] at h; cases h
   | some y =>
     have h1 := List.all_eq_true.1 wdN_len y (List.mem_of_find?_eq_some hf)
     have h2 := List.find?_some hf
     simp only [decide_eq_true_eq] at h1 h2
     rw [← h2]
     exact h1
theorem wordW_len {f : Nd → StW → Option StW} {F : Nat} {n : Nd} {s s' : StW} (hF : 4900 ≤ F) (hs : s.1.length ≤ 4096) (hr : -9223372036854775808 ≤ n.int ∧ n.int ≤ 9223372036854775807) (hf : ∀ k ∈ n.kids, ∀ s s', f k s = some s' → s'.1.length ≤ F) (h : wordW f n s = some s') : s'.1.length ≤ F + 1 := by
 unfold wordW at h
 cases hw : wdP n.op with
 | none => rw [hw] at h; cases h
 | some x =>
   obtain ⟨p, least⟩ := x
   have ho := wd_le hw
   rw [hw] at h
   simp only [wordP] at h
   by_cases h1 : hasB p 101 = true
   · rw [if_pos h1] at h
     split at h
     · cases h
     · obtain ⟨s2, h2, h⟩ := Option.bind_eq_some_iff.1 h
       split at h
       · injection h with h
         subst h
         exact kidsW_len n.kids p 40 _ _ hf (by simp; omega) h2
       · cases h
   · rw [if_neg h1] at h
     by_cases h3 : hasB p 100 = true
     · rw [if_pos h3] at h
       split at h
       · cases h
       · split at h
         · injection h with h
           subst h
           have := itoa_le n.int hr.1 hr.2
           simp
           omega
         · cases h
     · rw [if_neg h3] at h
       by_cases h4 : hasB p 116 = true
       · rw [if_pos h4] at h
         split at h
         · rename_i hq
           obtain ⟨q, hq⟩ := Option.isSome_iff_exists.1 hq
           split at h
           · injection h with h
             subst h
             have := Knd.textT_small 6 n.ty q hq
             simp
             omega
           · cases h
         · cases h
       · rw [if_neg h4] at h
         split at h
         · injection h with h
           subst h
           simp
           omega
         · cases h
theorem termW_len : ∀ (r : Nat) (n : Nd) (s s' : StW), RgN r n → zJ r n s = some s' → s'.1.length ≤ 4900 + r
 | 0, n, s, s', _, h => by simp [zJ] at h
 | r + 1, n, s, s', hr, h => by
   obtain ⟨r0, r1, _, rk⟩ := hr
   unfold zJ at h
   split at h
   · cases h
   · rename_i hs
     split at h
     · split at h
       · injection h with h
         subst h
         have := itoa_le n.int r0 r1
         simp
         omega
       · cases h
     · split at h
       · split at h
         · cases h
         · split at h
           · injection h with h
             subst h
             have := quoL_le n.text
             simp [quoS]
             omega
           · cases h
       · split at h
         · split at h
           · rename_i hn
             split at h
             · injection h with h
               subst h
               have := name_le hn
               simp
               omega
             · cases h
           · cases h
         · have := wordW_len (F := 4900 + r) (by omega) (by simp; omega) ⟨r0, r1⟩ (fun k hk s s' hk' => termW_len r k s s' (rk k hk) hk') h
           omega
theorem itoa_pos (n : Int) : 1 ≤ (Lib.itoa n).length := by
 have h := fun u => Lib.nDigits_pos u
 unfold Lib.itoa
 split
 · simp
 · rw [Lib.decDigits_length]; exact h _
theorem wdN_pos : (wdL.all fun x => decide (1 ≤ x.1.length)) = true := by decide +kernel
theorem wd_pos {t : List UInt8} {x : List UInt8 × Nat} (h : wdP t = some x) : 1 ≤ t.length := by
 unfold wdP at h
 by_cases hl : t = listW
 · rw [hl]; decide
 · rw [if_neg hl] at h
   cases hf : wdL.find? (fun x => decide (x.1 = t)) with
   | none => rw [hf] at h; cases h
   | some y =>
     have h1 := List.all_eq_true.1 wdN_pos y (List.mem_of_find?_eq_some hf)
     have h2 := List.find?_some hf
     simp only [decide_eq_true_eq] at h1 h2
     rw [← h2]
     exact h1
theorem name_pos {t : List UInt8} (h : isNm t = true) : 1 ≤ t.length := by
 unfold isNm at h
 simp only [Bool.and_eq_true, decide_eq_true_eq] at h
 cases t with
 | nil => exact absurd rfl h.1.1
 | cons a l => simp
theorem kidsW_cnt {f : Nd → StW → Option StW} : ∀ (l : List Nd) (p : List UInt8) (mark : UInt8) (s s' : StW), (∀ n ∈ l, ∀ s s', f n s = some s' → s.2 ≤ s.1.length → s'.2 ≤ s'.1.length) → s.2 ≤ s.1.length → yD f l p mark s = some s' → s'.2 ≤ s'.1.length
 | [], _, _, s, s', _, hs, h => by
   simp only [yD, Option.some.injEq] at h
   subst h
   simp
   omega
 | _ :: _, [], _, _, _, _, _, h => by simp [yD] at h
 | n :: l, p :: ps, mark, s, s', hf, hs, h => by
   unfold yD at h
   split at h
   · cases h
   · split at h
     · cases h
     · rename_i s2 h2
       exact kidsW_cnt l ps 44 s2 s' (fun m hm => hf m (List.mem_cons_of_mem _ hm)) (hf n (List.mem_cons_self ..) _ _ h2 (by simp; omega)) h
theorem wordW_cnt {f : Nd → StW → Option StW} {n : Nd} {s s' : StW} (hs : s.2 ≤ s.1.length + 1) (hf : ∀ k ∈ n.kids, ∀ s s', f k s = some s' → s.2 ≤ s.1.length → s'.2 ≤ s'.1.length) (h : wordW f n s = some s') : s'.2 ≤ s'.1.length := by
 unfold wordW at h
 cases hw : wdP n.op with
 | none => rw [hw] at h; cases h
 | some x =>
   obtain ⟨p, least⟩ := x
   have ho := wd_pos hw
   rw [hw] at h
   simp only [wordP] at h
   by_cases h1 : hasB p 101 = true
   · rw [if_pos h1] at h
     split at h
     · cases h
     · obtain ⟨s2, h2, h⟩ := Option.bind_eq_some_iff.1 h
       split at h
       · injection h with h
         subst h
         exact kidsW_cnt n.kids p 40 _ _ hf (by simp; omega) h2
       · cases h
   · rw [if_neg h1] at h
     by_cases h3 : hasB p 100 = true
     · rw [if_pos h3] at h
       split at h
       · cases h
       · split at h
         · injection h with h
           subst h
           simp
           omega
         · cases h
     · rw [if_neg h3] at h
       by_cases h4 : hasB p 116 = true
       · rw [if_pos h4] at h
         split at h
         · split at h
           · injection h with h
             subst h
             simp
             omega
           · cases h
         · cases h
       · rw [if_neg h4] at h
         split at h
         · injection h with h
           subst h
           simp
           omega
         · cases h
theorem termW_cnt : ∀ (r : Nat) (n : Nd) (s s' : StW), zJ r n s = some s' → s.2 ≤ s.1.length → s'.2 ≤ s'.1.length
 | 0, n, s, s', h, _ => by simp [zJ] at h
 | r + 1, n, s, s', h, hs => by
   unfold zJ at h
   split at h
   · cases h
   · split at h
     · split at h
       · injection h with h
         subst h
         have := itoa_pos n.int
         simp
         omega
       · cases h
     · split at h
       · split at h
         · cases h
         · split at h
           · injection h with h
             subst h
             simp [quoS]
             omega
           · cases h
       · split at h
         · split at h
           · rename_i hn
             split at h
             · injection h with h
               subst h
               have := name_pos hn
               simp
               omega
             · cases h
           · cases h
         · exact wordW_cnt (by simp; omega) (fun k _ s s' hk' hs' => termW_cnt r k s s' hk' hs') h
end Go.Proofs.YtaecndmncpfpfaaGreatDoor
namespace Go.Proofs.YtaecndmncpfpfaaGreatDoor
open Go.RowKit
open Knd (BFr)
def bareV (i : Int) (t : ByteArray) (k : Int) (n m : Nat) : Bool := decide (i = 0) && (decide (bl t = []) && (decide (k = 0) && (decide (n = 0) && decide (m = 0))))
set_option maxHeartbeats 1000000 in
theorem isBare_any (o : ByteArray) (i : Int) (t : ByteArray) (k : Int) (A : Option Addr) (n c : Nat) (K : Option Addr) (m e : Nat) (w : World) :
    Calls Tryz.prog 128 #[.agg #[.string o, .int .i64 i, .string t, .int .i64 k, .slice A n c, .slice K m e]] w fun x w' => x = .returned (.bool (bareV i t k n m)) ∧ Below w.heap.size w w' := by
 have hn : w.heap.size < (w.alloc (.cells #[.string o, .int .i64 i, .string t, .int .i64 k, .slice A n c, .slice K m e] 41)).heap.size := by simp
 by_cases h1 : i = 0
 · have g1 : (i == 0) = true := by simp [h1]
   by_cases h2 : bl t = []
   · have ht : t = ⟨#[]⟩ := by rw [← str_bl t, h2]
     by_cases h3 : k = 0
     · have g3 : (k == 0) = true := by simp [h3]
       by_cases h4 : n = 0
       · have g4 : ((n : Int) == 0) = true := by simp [h4]
         have HF : Hid (bareV i t k n m = ((m : Int) == 0)) := by
          show _ = _
          unfold bareV
          rw [decide_eq_true h1, decide_eq_true h2, decide_eq_true h3, decide_eq_true h4, Bool.true_and, Bool.true_and, Bool.true_and, Bool.true_and, Bool.eq_iff_iff]
          simp
         subst ht
         clear h1 h2 h3 h4
         go_enter Tryz.func128, Tryz.ntmps128
         go_wp2_with (fail)
         go_ret
         rw [HF.out]
         exact ⟨rfl, (Below.refl _ _).alloc (Nat.le_refl _) _⟩
       · have g4 : ((n : Int) == 0) = false := beq_eq_false_iff_ne.2 (by omega)
         have HF : Hid (bareV i t k n m = false) := by show _ = _; unfold bareV; simp [h4]
         subst ht
         clear h1 h2 h3 h4
         go_enter Tryz.func128, Tryz.ntmps128
         go_wp2_with (fail)
         go_ret
         rw [HF.out]
         exact ⟨rfl, (Below.refl _ _).alloc (Nat.le_refl _) _⟩
     · have g3 : (k == 0) = false := beq_eq_false_iff_ne.2 h3
       have HF : Hid (bareV i t k n m = false) := by show _ = _; unfold bareV; simp [h3]
       subst ht
       clear h1 h2 h3
       go_enter Tryz.func128, Tryz.ntmps128
       go_wp2_with (fail)
       go_ret
       rw [HF.out]
       exact ⟨rfl, (Below.refl _ _).alloc (Nat.le_refl _) _⟩
   · have hne : t.toList ≠ [] := by rw [Lib.toList_data]; exact h2
     have hne2 : (t.toList == ([] : List UInt8)) = false := by simp [hne]
     have hemp : t.toList.isEmpty = false := by simp [hne]
     have HF : Hid (bareV i t k n m = false) := by show _ = _; unfold bareV; simp [h2]
     clear h1 h2
     go_enter Tryz.func128, Tryz.ntmps128
     go_wp2_with (fail)
     go_ret
     rw [HF.out]
     exact ⟨rfl, (Below.refl _ _).alloc (Nat.le_refl _) _⟩
 · have g1 : (i == 0) = false := beq_eq_false_iff_ne.2 h1
   have HF : Hid (bareV i t k n m = false) := by show _ = _; unfold bareV; simp [h1]
   clear h1
   go_enter Tryz.func128, Tryz.ntmps128
   go_wp2_with (fail)
   go_ret
   rw [HF.out]
   exact ⟨rfl, (Below.refl _ _).alloc (Nat.le_refl _) _⟩
set_option maxHeartbeats 1000000 in
theorem bracket_any (b : Nat) (bs : List UInt8) (k : Int) (s : ByteArray) (w : World) (h : Wr w b bs k) (hl : bs.length + s.size ≤ 1000000) :
    Calls Tryz.prog 157 #[.pointer (some ⟨b, 0, none⟩), .string s] w fun e w' => (∃ v, e = .returned v) ∧ Wr w' b (bs ++ [40] ++ bl s ++ [41]) k ∧ BFr b w w' := by
 have HW := Lib.hid h
 have h40 : (((40 : UInt8).toNat : Nat) : Int) = 40 := by decide
 have h41 : (((41 : UInt8).toNat : Nat) : Int) = 41 := by decide
 clear h
 go_enter Tryz.func157, Tryz.ntmps157
 go_wp2_with (fail)
 have h1 := wrByte_any b bs k 40 w HW.out (by omega)
 rw [h40] at h1
 refine h1.mono ?_
 rintro e w1 ⟨rfl, hw1, hf1⟩
 have HW1 := Lib.hid hw1
 have HF1 := Lib.hid hf1
 clear hw1 hf1 h1
 go_wp2_with (fail)
 refine (wrString_any b _ k s w1 HW1.out (by simp; omega)).mono ?_
 rintro e w2 ⟨rfl, hw2, hf2⟩
 have HW2 := Lib.hid hw2
 have HF2 := Lib.hid hf2
 clear hw2 hf2
 go_wp2_with (fail)
 have h1 := wrByte_any b _ k 41 w2 HW2.out (by simp [zT]; omega)
 rw [h41] at h1
 refine h1.mono ?_
 rintro e w3 ⟨rfl, hw3, hf3⟩
 have HW3 := Lib.hid hw3
 have HF3 := Lib.hid hf3
 clear hw3 hf3 h1
 go_wp2_with (fail)
 go_end0
 exact ⟨⟨_, rfl⟩, HW3.out, (HF1.out.trans HF2.out).trans HF3.out⟩
end Go.Proofs.YtaecndmncpfpfaaGreatDoor
namespace Go.Proofs.YtaecndmncpfpfaaGreatDoor
open Go.RowKit
open Knd (BFr)
theorem bfr_drew {b : Nat} {w w' : World} (h : BFr b w.drew w') : BFr b w w' := ⟨(Below.drew (Below.refl b w)).trans h.below, (Lib.OthersKept.refl _ _ w).drew.trans h.kept⟩
theorem quoL_snoc (l : List UInt8) (x : UInt8) : quoL (l ++ [x]) = quoL l ++ quoB x := by simp [quoL]
theorem hex_at : ∀ (j : Nat), j < 16 → ∀ W : World, (Instr.index 9 (.string ⟨#[48, 49, 50, 51, 52, 53, 54, 55, 56, 57, 97, 98, 99, 100, 101, 102]⟩) (.int .u8 (j : Int))).run Tryz.prog W = .ok (.int .u8 ((hexD j).toNat : Int)) W
 | 0, _, _ => by kernel_rfl
 | 1, _, _ => by kernel_rfl
 | 2, _, _ => by kernel_rfl
 | 3, _, _ => by kernel_rfl
 | 4, _, _ => by kernel_rfl
 | 5, _, _ => by kernel_rfl
 | 6, _, _ => by kernel_rfl
 | 7, _, _ => by kernel_rfl
 | 8, _, _ => by kernel_rfl
 | 9, _, _ => by kernel_rfl
 | 10, _, _ => by kernel_rfl
 | 11, _, _ => by kernel_rfl
 | 12, _, _ => by kernel_rfl
 | 13, _, _ => by kernel_rfl
 | 14, _, _ => by kernel_rfl
 | 15, _, _ => by kernel_rfl
 | j + 16, h, _ => by omega
theorem and_low : ∀ n : Fin 256, bits BinOp.and IntKind.u8 ((n.val : Nat) : Int) 15 = ((n.val % 16 : Nat) : Int) := by decide +kernel
theorem and_15 (c : UInt8) : bits BinOp.and IntKind.u8 (c.toNat : Int) 15 = ((c.toNat % 16 : Nat) : Int) := and_low ⟨c.toNat, c.toNat_lt⟩
set_option maxRecDepth 100000 in
set_option maxHeartbeats 2000000 in
theorem quote_any (b : Nat) (bs : List UInt8) (k : Int) (s : ByteArray) (w : World) (h : Wr w b bs k) (hl : bs.length ≤ 100000) (hs : s.size ≤ 10000) :
    Calls Tryz.prog 125 #[.pointer (some ⟨b, 0, none⟩), .string s] w fun e w' => (∃ v, e = .returned v) ∧ Wr w' b (bs ++ quoS (bl s)) k ∧ BFr b w w' := by
 have HW := Lib.hid h
 have h34 : (((34 : UInt8).toNat : Nat) : Int) = 34 := by decide
 have h92 : (((92 : UInt8).toNat : Nat) : Int) = 92 := by decide
 clear h
 go_enter Tryz.func125, Tryz.ntmps125
 go_wp2_with (fail)
 have h1 := wrByte_any b bs k 34 w HW.out (by omega)
 rw [h34] at h1
 refine h1.mono ?_
 rintro e w1 ⟨rfl, hw1, hf1⟩
 have HW1 := Lib.hid hw1
 have HF1 := Lib.hid hf1
 clear hw1 hf1 h1
 go_wp2_with (fail)
 have hsz := zT s
 go_loopw [12] (fun iv wr => ∃ i : Nat, iv = .int .i64 (i : Int) ∧ i ≤ s.size ∧ Hid (Wr wr b (bs ++ [34] ++ quoL ((bl s).take i)) k) ∧ Hid (BFr b w wr)) (fun iv _ => s.size - (intOf iv).toNat)
 case atStart => exact ⟨0, rfl, Nat.zero_le _, by simpa [quoL] using HW1, HF1⟩
 case round =>
  obtain ⟨i, rfl, hi, HWi, HFi⟩ := hrel
  have hll : (bs ++ [34] ++ quoL ((bl s).take i)).length ≤ 200000 := by
   have := quoL_le ((bl s).take i)
   have h2 : ((bl s).take i).length ≤ i := List.length_take_le _ _
   simp only [List.length_append, List.length_cons, List.length_nil]
   omega
  by_cases hlt : i < s.size
  · have hlt2 : ((i : Int) < (s.size : Int)) := by omega
    have hix := str_index s i hlt (by omega)
    rw [← bl_at s i hlt] at hix
    have htk : (bl s).take (i + 1) = (bl s).take i ++ [lkB (bl s) i] := by
     rw [List.take_add_one, List.getElem?_eq_getElem (by omega), lkB_at (by omega)]; rfl
    have HTK : Hid (bs ++ [34] ++ quoL ((bl s).take (i + 1)) = bs ++ [34] ++ quoL ((bl s).take i) ++ quoB (lkB (bl s) i)) := by show _ = _; rw [htk, quoL_snoc, ← List.append_assoc]
    generalize bs ++ [34] ++ quoL ((bl s).take i) = pre at *
    clear htk
    go_wp2_with (fail)
    refine (isPlain_any (lkB (bl s) i) wr).mono ?_
    rintro e w2 ⟨rfl, rfl⟩
    cases hpl : isPl (lkB (bl s) i) with
    | true =>
      have HQ : Hid (quoB (lkB (bl s) i) = [lkB (bl s) i]) := by show _ = _; unfold quoB; rw [hpl]; rfl
      clear hpl
      go_wp2_with (fail)
      refine (wrByte_any b _ k (lkB (bl s) i) wr HWi.out (by omega)).mono ?_
      rintro e w3 ⟨rfl, hw3, hf3⟩
      have HW3 : Hid (Wr w3 b (bs ++ [34] ++ quoL ((bl s).take (i + 1))) k) := by show Wr _ _ _ _; rw [HTK.out, HQ.out]; exact hw3
      have HF3 := Lib.hid (HFi.out.trans hf3)
      clear hw3 hf3 HTK HQ
      go_wp2_with (fail)
      go_roundw
      case rel => exact ⟨i + 1, by go_num, by omega, HW3, HF3⟩
      case measure => simp [intOf]; omega
    | false =>
      have HQ : Hid (quoB (lkB (bl s) i) = [92, hexD ((lkB (bl s) i).toNat / 16), hexD ((lkB (bl s) i).toNat % 16)]) := by show _ = _; unfold quoB; rw [hpl]; rfl
      clear hpl
      go_wp2_with (fail)
      have h1 := wrByte_any b _ k 92 wr HWi.out (by omega)
      rw [h92] at h1
      refine h1.mono ?_
      rintro e w3 ⟨rfl, hw3, hf3⟩
      have HW3 := Lib.hid hw3
      have HF3 := Lib.hid (HFi.out.trans hf3)
      clear hw3 hf3 h1
      obtain ⟨c, hc⟩ : ∃ c, c = lkB (bl s) i := ⟨_, rfl⟩
      rw [← hc] at HQ HTK
      rw [← hc]
      clear hix
      have hcl := c.toNat_lt
      have hx1 : ∀ W : World, (Instr.index 9 (.string ⟨#[48, 49, 50, 51, 52, 53, 54, 55, 56, 57, 97, 98, 99, 100, 101, 102]⟩) (.int .u8 ((c.toNat : Int) / 16))).run Tryz.prog W = .ok (.int .u8 ((hexD (c.toNat / 16)).toNat : Int)) W := fun W => by
       rw [show ((c.toNat : Int) / 16) = ((c.toNat / 16 : Nat) : Int) by omega]
       exact hex_at _ (by omega) W
      have hx2 : ∀ W : World, (Instr.index 9 (.string ⟨#[48, 49, 50, 51, 52, 53, 54, 55, 56, 57, 97, 98, 99, 100, 101, 102]⟩) (.int .u8 (bits BinOp.and IntKind.u8 (c.toNat : Int) 15))).run Tryz.prog W = .ok (.int .u8 ((hexD (c.toNat % 16)).toNat : Int)) W := fun W => by
       rw [and_15]
       exact hex_at _ (by omega) W
      clear hc
      go_upto_region 8 with (fail)
      trace "R8"
      go_region_with (go_at_call 153; refine (wrByte_any b _ k (hexD (c.toNat / 16)) w3.drew HW3.out (by simp; omega)).mono ?_; rintro e w4 ⟨rfl, hw4, hf4⟩)
      go_wp2_with (fail)
      have HW4 := Lib.hid hw4
      have HF4 := Lib.hid hf4
      clear hw4 hf4
      go_upto_region 9 with (fail)
      go_region_with (go_at_call 153; refine (wrByte_any b _ k (hexD (c.toNat % 16)) w4.drew HW4.out (by simp; omega)).mono ?_; rintro e w5 ⟨rfl, hw5, hf5⟩)
      go_wp2_with (fail)
      have HW5 : Hid (Wr w5 b (bs ++ [34] ++ quoL ((bl s).take (i + 1))) k) := by
       show Wr _ _ _ _
       rw [HTK.out, HQ.out]
       have := hw5
       simpa using this
      have HF5 : Hid (BFr b w w5) := (HF3.out.trans (bfr_drew HF4.out)).trans (bfr_drew hf5)
      clear hw5 hf5 HTK HQ
      go_roundw
      case rel => exact ⟨i + 1, by go_num, by omega, HW5, HF5⟩
      case measure => simp [intOf]; omega
  · have hie : i = s.size := by omega
    subst hie
    have HWe : Hid (Wr wr b (bs ++ [34] ++ quoL (bl s)) k) := by
     have := HWi.out
     rw [List.take_of_length_le (by omega)] at this
     exact this
    rw [List.take_of_length_le (by omega)] at hll
    go_wp2_with (fail)
    have h1 := wrByte_any b _ k 34 wr HWe.out (by omega)
    rw [h34] at h1
    refine h1.mono ?_
    rintro e w3 ⟨rfl, hw3, hf3⟩
    have HW3 := Lib.hid hw3
    have HF3 := Lib.hid (HFi.out.trans hf3)
    clear hw3 hf3 h1
    go_wp2_with (fail)
    go_end0
    exact ⟨⟨_, rfl⟩, by have := HW3.out; simpa [quoS] using this, HF3.out⟩
