import Derived.Test.YtaecndmncpfpfaaGreatDoorSm
import Derived.Test.YtaecndmncpfpfaaGreatDoorKd
import Derived.Test.YtaecndmncpfpfaaGreatDoorLd
namespace Go.Proofs.YtaecndmncpfpfaaGreatDoor
open Go.RowKit
theorem info37 : (Tryz.prog.info? 24).map (fun i => (i.zero, i.size, i.bytes)) = some (some (.agg #[.int .i64 0, .slice none 0 0]), 2, 32) := by kernel_rfl
theorem ty_made_e {r i base : Nat} {lo : Nat} {kd : Int} {acc : List Ty} {vs : Value} {cs : List Value} {S : Nat → Prop} {wr wF : World} {te : TypeId} (hcs : wr.ownsRow base te 2 vs i cs) (hlen : acc.length = i)
    (hargs : ∀ (j : Nat) (a : Ty), acc[j]? = some a → ∃ u0 u1, cs[j * 2]? = some u0 ∧ cs[j * 2 + 1]? = some u1 ∧ TyAt wr S r (.agg #[u0, u1]) a) (hS : ∀ b, S b → base ≤ b)
    (hlo : lo ≤ base) (hk : ∀ b, base ≤ b → b < wr.heap.size → wF.heap[b]? = wr.heap[b]?) : TyAt wF (fun b => lo ≤ b) (r + 1) (.agg #[.int .i64 kd, vs]) (.mk kd acc) := by
 have hkc : ∀ b, base ≤ b → b < wr.heap.size → ∀ o, wF.cell? ⟨b, o, none⟩ = wr.cell? ⟨b, o, none⟩ := fun b hb hl o => World.cell?_of_block (hk b hb hl)
 rcases hcs.2 with ⟨rfl, h0⟩ | ⟨g, cap, cur, rfl, hbg, hg, hnc, _⟩
 · have ha : acc.length = 0 := by omega
   refine ⟨none, 0, ?_, by show acc.length ≤ 0; omega, fun hl => ?_⟩
   · show _ = Value.agg #[.int .i64 kd, .slice none acc.length 0]
     rw [ha]
   · have hl' : 0 < acc.length := hl
     omega
 · have hgl := zC hg
   refine ⟨some ⟨g, 0, none⟩, cap, ?_, by show acc.length ≤ cap; omega, fun hl => ⟨g, 0, rfl, by omega, fun j a ha => ?_⟩⟩
   · show _ = Value.agg #[.int .i64 kd, .slice (some ⟨g, 0, none⟩) acc.length cap]
     rw [hlen]
   · have ha' : acc[j]? = some a := ha
     obtain ⟨u0, u1, h0, h1, h2⟩ := hargs j a ha'
     have hjl := (List.getElem?_eq_some_iff.1 ha').1
     refine ⟨u0, u1, ?_, ?_, TyAt.move (fun b hSb hbl => ⟨by have := hS b hSb; omega, hkc b (hS b hSb) hbl⟩) _ _ _ h2⟩
     · rw [Nat.zero_add, hkc g hbg hgl, hcs.cellAt _ (by omega)]; exact h0
     · rw [Nat.zero_add, hkc g hbg hgl, hcs.cellAt _ (by omega)]; exact h1
structure OfInv (w : World) (v0 : Value) (t : Ty) (kd : Int) (d j : Nat) (vs : Value) (cs : List Value) (wr : World) : Prop where
 below : Below w.heap.size w wr
 size : w.heap.size + 2 ≤ wr.heap.size
 box : wr.heap[w.heap.size]? = some (.cells #[.int .i64 kd, v0] 34 (0, 0))
 res : wr.heap[w.heap.size + 1]? = some (.cells #[.int .i64 0, .slice none 0 0] 24 (0, 0))
 own : wr.ownsRow (w.heap.size + 2) 24 2 vs j cs
 args : ∀ (i : Nat) (a : Ty), i < j → t.args[i]? = some a → ∃ u0 u1, cs[i * 2]? = some u0 ∧ cs[i * 2 + 1]? = some u1 ∧ TyAt wr (fun b => w.heap.size + 2 ≤ b ∧ some b ≠ vs.ownBlock) d (.agg #[u0, u1]) a
theorem OfInv.next {w wr w3 w7 : World} {v0 vs v' u0 u1 : Value} {t a : Ty} {kd : Int} {d j : Nat} {cs : List Value} {o1 o2 : Obj} (h : OfInv w v0 t kd d j vs cs wr) (hb : Below (wr.alloc o1).heap.size (wr.alloc o1) w3) (hT : TyAt w3 (fun b => (wr.alloc o1).heap.size ≤ b) d (.agg #[u0, u1]) a) (ha : t.args[j]? = some a)
    (hg : (w3.alloc o2).grownBy w7 vs.ownBlock) (hown7 : w7.ownsRow (w.heap.size + 2) 24 2 v' (j + 1) (cs ++ [u0, u1])) (hat : v'.ownBlock = vs.ownBlock ∨ v'.ownBlock = some (w3.alloc o2).heap.size) :
    OfInv w v0 t kd d (j + 1) v' (cs ++ [u0, u1]) w7 := by
 have hs := h.size
 have hs3 := hb.size
 have e1 : (wr.alloc o1).heap.size = wr.heap.size + 1 := by simp
 have e3 : (w3.alloc o2).heap.size = w3.heap.size + 1 := by simp
 have hs7 := hg.size
 have hvs : ∀ b, vs.ownBlock = some b → w.heap.size + 2 ≤ b ∧ b < wr.heap.size := h.own.lt
 have step3 : ∀ b, b < w3.heap.size → some b ≠ vs.ownBlock → w7.heap[b]? = w3.heap[b]? := fun b hl hne => by
  rw [hg.block b (by omega) hne, Below.heap_alloc _ _ _ hl]
 have stepr : ∀ b, b < wr.heap.size → some b ≠ vs.ownBlock → w7.heap[b]? = wr.heap[b]? := fun b hl hne => by
  rw [step3 b (by omega) hne, hb.block b (by omega), Below.heap_alloc _ _ _ hl]
 have ne1 : ∀ b, b < w.heap.size + 2 → some b ≠ vs.ownBlock := fun b hl e => by have := (hvs b e.symm).1; omega
 have hbw : Below w.heap.size w w7 := ((h.below.alloc (by omega) o1).trans (hb.mono (by omega))).alloc (by omega) o2 |>.grown hg (by omega) (fun k hk => by have := (hvs k hk).1; omega)
 refine ⟨hbw, by omega, ?_, ?_, hown7, fun i b hi hib => ?_⟩
 · rw [stepr _ (by omega) (ne1 _ (by omega))]; exact h.box
 · rw [stepr _ (by omega) (ne1 _ (by omega))]; exact h.res
 · have hcl : cs.length = j * 2 := h.own.1
   rcases Nat.lt_or_ge i j with hlt | hge
   · obtain ⟨x0, x1, h0, h1, h2⟩ := h.args i b hlt hib
     refine ⟨x0, x1, by rw [List.getElem?_append_left (by omega)]; exact h0, by rw [List.getElem?_append_left (by omega)]; exact h1, h2.move fun k hk hl => ⟨⟨hk.1, fun e => ?_⟩, fun _ => World.cell?_of_block (stepr k hl hk.2)⟩⟩
     rcases hat with hh | hh
     · exact hk.2 (e.trans hh)
     · rw [hh, e3] at e; injection e; omega
   · obtain rfl : i = j := by omega
     rw [ha] at hib
     injection hib with hib
     subst hib
     have nev : ∀ k, wr.heap.size + 1 ≤ k → some k ≠ vs.ownBlock := fun k hk e => by have := (hvs k e.symm).2; omega
     refine ⟨u0, u1, by rw [List.getElem?_append_right (by omega)]; simp [show i * 2 - cs.length = 0 by omega], by rw [List.getElem?_append_right (by omega)]; simp [show i * 2 + 1 - cs.length = 1 by omega], hT.move fun k hk hl => ⟨⟨by omega, fun e => ?_⟩, fun _ => World.cell?_of_block (step3 k hl (nev k (by omega)))⟩⟩
     rcases hat with hh | hh
     · rw [hh] at e; exact nev k (by omega) e
     · rw [hh, e3] at e; injection e; omega
end Go.Proofs.YtaecndmncpfpfaaGreatDoor
namespace Go.Proofs.YtaecndmncpfpfaaGreatDoor
open Go.RowKit
def NarN : Nat → Nd → Prop
 | 0, _ => False
 | d + 1, n => Nar 30 n.ty ∧ n.kids.length ≤ 5000 ∧ ∀ k ∈ n.kids, NarN d k
theorem few_nar : ∀ (d : Nat) (n : Nd), FewN d n → NarN d n
 | 0, _, h => h.elim
 | d + 1, _, ⟨_, _, h2, h3, h4⟩ => ⟨h2, h3, fun k hk => few_nar d k (h4 k hk)⟩
theorem info40 : (Tryz.prog.info? 27).map (fun i => (i.zero, i.size, i.bytes)) = some (some (.agg #[.string ⟨#[]⟩, .int .i64 0, .string ⟨#[]⟩, .int .i64 0, .slice none 0 0, .slice none 0 0]), 6, 96) := by kernel_rfl
theorem cell_six_new (w : World) (a b c d e f : Value) (t : TypeId) (B : Nat) (hB : B = w.heap.size) : ∀ j u, [a, b, c, d, e, f][j]? = some u → (w.alloc (.cells #[a, b, c, d, e, f] t)).cell? ((⟨B, 0, none⟩ : Addr).add j) = some u := by
 intro j u hj
 subst hB
 have h : (w.alloc (.cells #[a, b, c, d, e, f] t)).heap[w.heap.size]? = some (.cells #[a, b, c, d, e, f] t (0, 0)) := heap_alloc_new w _
 have ha : ((⟨w.heap.size, 0, none⟩ : Addr).add j) = ⟨w.heap.size, j, none⟩ := by
  simp only [Addr.add]
  by_cases hk : j = 0 <;> simp [hk]
 rw [ha]
 rcases j with _ | _ | _ | _ | _ | _ | j
 · rw [zN h]; simpa using hj
 · rw [zR h]; simpa using hj
 · rw [zQ h]; simpa using hj
 · rw [zP h]; simpa using hj
 · rw [zO h]; simpa using hj
 · rw [zL h]; simpa using hj
 · simp at hj
theorem six_one (o : ByteArray) (i : Int) (t : ByteArray) (k : Int) (A : Option Addr) (n c : Nat) (K : Option Addr) (m e : Nat) : ∀ u ∈ [Value.string o, .int .i64 i, .string t, .int .i64 k, .slice A n c, .slice K m e], u.oneCell' = true := by
 intro u hu
 simp only [List.mem_cons, List.not_mem_nil, or_false] at hu
 rcases hu with rfl | rfl | rfl | rfl | rfl | rfl <;> rfl
structure OfnInv (w : World) (t : Nd) (pv rv : Array Value) (d j : Nat) (vs : Value) (cs : List Value) (wr : World) : Prop where
 below : Below w.heap.size w wr
 size : w.heap.size + 2 ≤ wr.heap.size
 box : wr.heap[w.heap.size]? = some (.cells pv 41 (0, 0))
 res : wr.heap[w.heap.size + 1]? = some (.cells rv 27 (0, 0))
 own : wr.ownsRow (w.heap.size + 2) 27 6 vs j cs
 args : ∀ (i : Nat) (a : Nd), i < j → t.kids[i]? = some a → ∃ u0 u1 u2 u3 u4 u5, cs[i * 6]? = some u0 ∧ cs[i * 6 + 1]? = some u1 ∧ cs[i * 6 + 2]? = some u2 ∧ cs[i * 6 + 3]? = some u3 ∧ cs[i * 6 + 4]? = some u4 ∧ cs[i * 6 + 5]? = some u5 ∧ NdAt wr (fun b => w.heap.size + 2 ≤ b ∧ some b ≠ vs.ownBlock) d (.agg #[u0, u1, u2, u3, u4, u5]) a
theorem OfnInv.next {w wr w3 w7 : World} {vs v' u0 u1 u2 u3 u4 u5 : Value} {t a : Nd} {pv rv : Array Value} {d j : Nat} {cs : List Value} {o1 o2 : Obj} (h : OfnInv w t pv rv d j vs cs wr) (hb : Below (wr.alloc o1).heap.size (wr.alloc o1) w3) (hT : NdAt w3 (fun b => (wr.alloc o1).heap.size ≤ b) d (.agg #[u0, u1, u2, u3, u4, u5]) a) (ha : t.kids[j]? = some a)
    (hg : (w3.alloc o2).grownBy w7 vs.ownBlock) (hown7 : w7.ownsRow (w.heap.size + 2) 27 6 v' (j + 1) (cs ++ [u0, u1, u2, u3, u4, u5])) (hat : v'.ownBlock = vs.ownBlock ∨ v'.ownBlock = some (w3.alloc o2).heap.size) :
    OfnInv w t pv rv d (j + 1) v' (cs ++ [u0, u1, u2, u3, u4, u5]) w7 := by
 have hs := h.size
 have hs3 := hb.size
 have e1 : (wr.alloc o1).heap.size = wr.heap.size + 1 := by simp
 have e3 : (w3.alloc o2).heap.size = w3.heap.size + 1 := by simp
 have hs7 := hg.size
 have hvs : ∀ b, vs.ownBlock = some b → w.heap.size + 2 ≤ b ∧ b < wr.heap.size := h.own.lt
 have step3 : ∀ b, b < w3.heap.size → some b ≠ vs.ownBlock → w7.heap[b]? = w3.heap[b]? := fun b hl hne => by
  rw [hg.block b (by omega) hne, Below.heap_alloc _ _ _ hl]
 have stepr : ∀ b, b < wr.heap.size → some b ≠ vs.ownBlock → w7.heap[b]? = wr.heap[b]? := fun b hl hne => by
  rw [step3 b (by omega) hne, hb.block b (by omega), Below.heap_alloc _ _ _ hl]
 have ne1 : ∀ b, b < w.heap.size + 2 → some b ≠ vs.ownBlock := fun b hl e => by have := (hvs b e.symm).1; omega
 have hbw : Below w.heap.size w w7 := ((h.below.alloc (by omega) o1).trans (hb.mono (by omega))).alloc (by omega) o2 |>.grown hg (by omega) (fun k hk => by have := (hvs k hk).1; omega)
 refine ⟨hbw, by omega, ?_, ?_, hown7, fun i b hi hib => ?_⟩
 · rw [stepr _ (by omega) (ne1 _ (by omega))]; exact h.box
 · rw [stepr _ (by omega) (ne1 _ (by omega))]; exact h.res
 · have hcl : cs.length = j * 6 := h.own.1
   rcases Nat.lt_or_ge i j with hlt | hge
   · obtain ⟨x0, x1, x2, x3, x4, x5, h0, h1, h2, h3, h4, h5, h6⟩ := h.args i b hlt hib
     refine ⟨x0, x1, x2, x3, x4, x5, by rw [List.getElem?_append_left (by omega)]; exact h0, by rw [List.getElem?_append_left (by omega)]; exact h1, by rw [List.getElem?_append_left (by omega)]; exact h2, by rw [List.getElem?_append_left (by omega)]; exact h3, by rw [List.getElem?_append_left (by omega)]; exact h4, by rw [List.getElem?_append_left (by omega)]; exact h5, h6.move fun k hk hl => ⟨⟨hk.1, fun e => ?_⟩, fun _ => World.cell?_of_block (stepr k hl hk.2)⟩⟩
     rcases hat with hh | hh
     · exact hk.2 (e.trans hh)
     · rw [hh, e3] at e; injection e; omega
   · obtain rfl : i = j := by omega
     rw [ha] at hib
     injection hib with hib
     subst hib
     have nev : ∀ k, wr.heap.size + 1 ≤ k → some k ≠ vs.ownBlock := fun k hk e => by have := (hvs k e.symm).2; omega
     refine ⟨u0, u1, u2, u3, u4, u5, by rw [List.getElem?_append_right (by omega)]; simp [show i * 6 - cs.length = 0 by omega], by rw [List.getElem?_append_right (by omega)]; simp [show i * 6 + 1 - cs.length = 1 by omega], by rw [List.getElem?_append_right (by omega)]; simp [show i * 6 + 2 - cs.length = 2 by omega], by rw [List.getElem?_append_right (by omega)]; simp [show i * 6 + 3 - cs.length = 3 by omega], by rw [List.getElem?_append_right (by omega)]; simp [show i * 6 + 4 - cs.length = 4 by omega], by rw [List.getElem?_append_right (by omega)]; simp [show i * 6 + 5 - cs.length = 5 by omega], hT.move fun k hk hl => ⟨⟨by omega, fun e => ?_⟩, fun _ => World.cell?_of_block (step3 k hl (nev k (by omega)))⟩⟩
     rcases hat with hh | hh
     · rw [hh] at e; exact nev k (by omega) e
     · rw [hh, e3] at e; injection e; omega
theorem nd_made {w wr wF : World} {t : Nd} {pv rv : Array Value} {d : Nat} {A A' : Option Addr} {c c' : Nat} {cs : List Value} (h : OfnInv w t pv rv d t.kids.length (.slice A' t.kids.length c') cs wr) (hk : ∀ b, w.heap.size + 2 ≤ b → b < wr.heap.size → wF.heap[b]? = wr.heap[b]?)
    (hT : ∃ dt, TyAt wF (fun b => w.heap.size ≤ b) dt (.agg #[.int .i64 t.ty.kind, .slice A t.ty.args.length c]) t.ty) : NdAt wF (fun b => w.heap.size ≤ b) (d + 1) (.agg #[.string ⟨t.op.toArray⟩, .int .i64 t.int, .string ⟨t.text.toArray⟩, .int .i64 t.ty.kind, .slice A t.ty.args.length c, .slice A' t.kids.length c']) t := by
 have hkc : ∀ b, w.heap.size + 2 ≤ b → b < wr.heap.size → ∀ o, wF.cell? ⟨b, o, none⟩ = wr.cell? ⟨b, o, none⟩ := fun b hb hl o => World.cell?_of_block (hk b hb hl)
 have hown := h.own
 rcases hown.2 with ⟨he, h0⟩ | ⟨g, cap, cur, he, hbg, hg, hnc, _⟩
 · injection he with e1 e2 e3
   subst e1; subst e3
   exact ⟨A, c, none, 0, rfl, hT, by omega, fun hl => absurd hl (by omega)⟩
 · injection he with e1 e2 e3
   subst e1; subst e3
   have hgl := zC hg
   refine ⟨A, c, _, c', rfl, hT, by omega, fun hl => ⟨g, 0, rfl, by omega, fun j a ha => ?_⟩⟩
   have hjl := (List.getElem?_eq_some_iff.1 ha).1
   obtain ⟨u0, u1, u2, u3, u4, u5, h0, h1, h2, h3, h4, h5, h6⟩ := h.args j a hjl ha
   refine ⟨u0, u1, u2, u3, u4, u5, ?_, ?_, ?_, ?_, ?_, ?_, NdAt.move (fun b hSb hbl => ⟨by have := hSb.1; show w.heap.size ≤ b; omega, hkc b hSb.1 hbl⟩) _ _ _ h6⟩
   · rw [Nat.zero_add, hkc g hbg hgl, hown.cellAt _ (by omega)]; exact h0
   · rw [Nat.zero_add, hkc g hbg hgl, hown.cellAt _ (by omega)]; exact h1
   · rw [Nat.zero_add, hkc g hbg hgl, hown.cellAt _ (by omega)]; exact h2
   · rw [Nat.zero_add, hkc g hbg hgl, hown.cellAt _ (by omega)]; exact h3
   · rw [Nat.zero_add, hkc g hbg hgl, hown.cellAt _ (by omega)]; exact h4
   · rw [Nat.zero_add, hkc g hbg hgl, hown.cellAt _ (by omega)]; exact h5
