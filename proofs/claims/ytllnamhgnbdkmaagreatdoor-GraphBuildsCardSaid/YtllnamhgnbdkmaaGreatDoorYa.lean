/-
Stage 11: readLine. Stage 11: readLine.
-/
import Derived.Test.YtllnamhgnbdkmaaGreatDoorJv
import Derived.Lib.Split
set_option linter.unusedVariables false
set_option linter.unusedSimpArgs false
namespace Go.Proofs.YtllnamhgnbdkmaaGreatDoor
open Go.RowKit Go.Shelf
def nodeP (q : List UInt8 → Option (List Int)) (op : Int) (ps : List (List UInt8)) : Option Gn :=
  if op = 1 then (match ps with | [p0] => node1 p0 | _ => none) else if op = 2 then (match ps with | [p0, p1, p2] => node2 q p0 p1 p2 | _ => none)
  else if op = 3 then (match ps with | [p0, p1, p2, p3, p4] => node3 p0 p1 p2 p3 p4 | _ => none) else if op = 4 then (match ps with | [p0, p1, p2, p3, p4, p5] => node4 p0 p1 p2 p3 p4 p5 | _ => none)
  else if op = 5 then (match ps with | [p0] => node5 q p0 | _ => none) else (match ps with | [p0] => node6 p0 | _ => none)
theorem readNode_any {q : List UInt8 → Option (List Int)} (hq : PlacesOk q) (w0 w : World) (R P : Nat) (o : Gop) (ho : o ∈ gops) (ps : List (List UInt8)) (hn : (ps.length : Int) = o.parts) (hG : Gk w0) (hb : Below w0.heap.size w0 w) (hR : w0.heap.size ≤ R) (hl : ∀ x ∈ ps, x.length ≤ 1000000) (h : RdL w R P ps false) :
    Calls Tryz.prog 79 #[.pointer (some ⟨R, 0, none⟩), .int .i64 o.number] w fun e w' => NodeOut w w' R P e (nodeP q o.number ps) := by
  simp only [gops, List.mem_cons, List.not_mem_nil, or_false] at ho
  rcases ho with rfl | rfl | rfl | rfl | rfl | rfl
  · match ps, hn with
    | [p0], _ => exact readNode1 w0 w R P p0 hG hb hR hl h
  · match ps, hn with
    | [p0, p1, p2], _ => exact readNode2 hq w0 w R P p0 p1 p2 hG hb hR hl h
  · match ps, hn with
    | [p0, p1, p2, p3, p4], _ => exact readNode3 w0 w R P p0 p1 p2 p3 p4 hG hb hR hl h
  · match ps, hn with
    | [p0, p1, p2, p3, p4, p5], _ => exact readNode4 w0 w R P p0 p1 p2 p3 p4 p5 hG hb hR hl h
  · match ps, hn with
    | [p0], _ => exact readNode5 hq w0 w R P p0 hG hb hR hl h
  · match ps, hn with
    | [p0], _ => exact readNode6 w0 w R P p0 hG hb hR hl h
theorem splitK_len (sep : List UInt8) : ∀ (k : Nat) (s x : List UInt8), x ∈ Lib.splitK sep 0 k s → x.length ≤ s.length
  | 0, s, x, h => by
    obtain rfl : x = s := by simpa [Lib.splitK] using h
    exact Nat.le_refl _
  | k + 1, s, x, h => by
    unfold Lib.splitK at h
    split at h
    · obtain rfl : x = s := by simpa using h
      exact Nat.le_refl _
    · rcases List.mem_cons.1 h with rfl | h
      · simp; omega
      · have := splitK_len sep k _ x h
        simp at this
        omega
theorem split_b (s : List UInt8) (n : Nat) (w : World) (hs : s.length ≤ 1000000) (h1 : 1 ≤ n) (h6 : n ≤ 6) (hG : Gk w) :
    Calls Tryz.prog 78 #[.string ⟨s.toArray⟩, .string ⟨#[32]⟩, .int .i64 n] w fun e w' => (∃ c, e = .returned (.slice (some ⟨w.heap.size, 0, none⟩) (Lib.splitN s [32] n).length c) ∧ StrsAt w' (fun b => b = w.heap.size) (.slice (some ⟨w.heap.size, 0, none⟩) (Lib.splitN s [32] n).length c) (Lib.splitN s [32] n)) ∧ Below w.heap.size w w' := by
  obtain ⟨m, hm⟩ := hG.mx
  have hsz : (ByteArray.mk s.toArray).size = s.length := by simp [ByteArray.size]
  refine (Tryz.strings_SplitN ⟨s.toArray⟩ ⟨#[32]⟩ n m w (by omega) hm (by decide) h1 (by omega)).mono ?_
  rintro e w' ⟨rfl, rfl⟩
  have hd : (Lib.splitB ⟨#[32]⟩ 0 (min n ((ByteArray.mk s.toArray).size + 1) - 1) ⟨s.toArray⟩).map (·.data.toList) = Lib.splitN s [32] n := by
    rw [Lib.splitB_data, hsz]
    rfl
  have hlen : (Lib.splitB ⟨#[32]⟩ 0 (min n ((ByteArray.mk s.toArray).size + 1) - 1) ⟨s.toArray⟩).length = (Lib.splitN s [32] n).length := by rw [← hd, List.length_map]
  have hle := Lib.splitB_length_le ⟨#[32]⟩ 0 (min n ((ByteArray.mk s.toArray).size + 1) - 1) ⟨s.toArray⟩
  rw [hlen]
  refine ⟨⟨_, rfl, _, _, rfl, by omega, fun h0 => ⟨w.heap.size, 0, rfl, rfl, by simp, fun j x hx => ?_⟩⟩, (Below.refl _ _).alloc (Nat.le_refl _) _⟩
  rw [Nat.zero_add]
  refine cellN (heap_alloc_new w _) ?_
  rw [← hd, List.getElem?_map, Option.map_eq_some_iff] at hx
  obtain ⟨y, hy, rfl⟩ := hx
  have hj := (List.getElem?_eq_some_iff.1 hy).1
  rw [Lib.cellsOf, List.getElem?_toArray, List.getElem?_append_left (by simpa using hj), List.getElem?_map, hy]
  rfl
theorem split_c (s : List UInt8) (n : Nat) (w : World) (hs : s.length ≤ 1000000) (h1 : 1 ≤ n) (h6 : n ≤ 6) (hG : Gk w) :
    Calls Tryz.prog 78 #[.string ⟨s.toArray⟩, .string ⟨#[44]⟩, .int .i64 n] w fun e w' => (∃ c, e = .returned (.slice (some ⟨w.heap.size, 0, none⟩) (Lib.splitN s [44] n).length c) ∧ StrsAt w' (fun b => b = w.heap.size) (.slice (some ⟨w.heap.size, 0, none⟩) (Lib.splitN s [44] n).length c) (Lib.splitN s [44] n)) ∧ Below w.heap.size w w' := by
  obtain ⟨m, hm⟩ := hG.mx
  have hsz : (ByteArray.mk s.toArray).size = s.length := by simp [ByteArray.size]
  refine (Tryz.strings_SplitN ⟨s.toArray⟩ ⟨#[44]⟩ n m w (by omega) hm (by decide) h1 (by omega)).mono ?_
  rintro e w' ⟨rfl, rfl⟩
  have hd : (Lib.splitB ⟨#[44]⟩ 0 (min n ((ByteArray.mk s.toArray).size + 1) - 1) ⟨s.toArray⟩).map (·.data.toList) = Lib.splitN s [44] n := by
    rw [Lib.splitB_data, hsz]
    rfl
  have hlen : (Lib.splitB ⟨#[44]⟩ 0 (min n ((ByteArray.mk s.toArray).size + 1) - 1) ⟨s.toArray⟩).length = (Lib.splitN s [44] n).length := by rw [← hd, List.length_map]
  have hle := Lib.splitB_length_le ⟨#[44]⟩ 0 (min n ((ByteArray.mk s.toArray).size + 1) - 1) ⟨s.toArray⟩
  rw [hlen]
  refine ⟨⟨_, rfl, _, _, rfl, by omega, fun h0 => ⟨w.heap.size, 0, rfl, rfl, by simp, fun j x hx => ?_⟩⟩, (Below.refl _ _).alloc (Nat.le_refl _) _⟩
  rw [Nat.zero_add]
  refine cellN (heap_alloc_new w _) ?_
  rw [← hd, List.getElem?_map, Option.map_eq_some_iff] at hx
  obtain ⟨y, hy, rfl⟩ := hx
  have hj := (List.getElem?_eq_some_iff.1 hy).1
  rw [Lib.cellsOf, List.getElem?_toArray, List.getElem?_append_left (by simpa using hj), List.getElem?_map, hy]
  rfl
end Go.Proofs.YtllnamhgnbdkmaaGreatDoor
namespace Go.Proofs.YtllnamhgnbdkmaaGreatDoor
open Go.RowKit Go.Shelf
def opR (q : List UInt8 → Option (List Int)) (rest : List UInt8) : Option Gop → Option Gn
  | none => none
  | some o => if (Lib.splitN rest [32] o.parts.toNat).length < o.parts then none else nodeP q o.number (Lib.splitN rest [32] o.parts.toNat)
def lineR (q : List UInt8 → Option (List Int)) (line : List UInt8) : Option Gn := opR q (Lib.cut line [32]).2.1 (gops.find? fun x => x.word == (Lib.cut line [32]).1)
def LineOut (w w' : World) (e : Ending) (o : Option Gn) : Prop := (∃ n IA SA A ic sc c, e = .returned (.tuple #[Gn.val n IA SA A ic sc c, .bool o.isSome]) ∧ (∀ v, o = some v → n = v) ∧ GnAt w' (fun b => w.heap.size ≤ b) 6 (n.val IA SA A ic sc c) n) ∧ Below w.heap.size w w'
theorem bl_drN {B : Nat} {a w : World} (h : Below B a w) (n : Nat) : Below B a (w.drewN n) := h.trans ⟨rfl, rfl, rfl, Nat.le_refl _, fun _ _ => rfl⟩
theorem gops_parts : ∀ x ∈ gops, x.parts = (x.parts.toNat : Int) ∧ 1 ≤ x.parts.toNat ∧ x.parts.toNat ≤ 6 := by decide
theorem cut_len (s : List UInt8) : (Lib.cut s [32]).1.length ≤ s.length ∧ (Lib.cut s [32]).2.1.length ≤ s.length := by
  unfold Lib.cut
  split <;> simp <;> omega
theorem splitK_few (sep : List UInt8) : ∀ (k : Nat) (s : List UInt8), (Lib.splitK sep 0 k s).length ≤ k + 1
  | 0, _ => Nat.le_refl _
  | k + 1, s => by
    unfold Lib.splitK
    split
    · simp
    · have := splitK_few sep k (s.drop ((Lib.index s sep).toNat + sep.length))
      simp only [List.length_cons]
      omega
theorem rd_start {w : World} {P : Nat} {v : Value} {l : List (List UInt8)} (h : StrsAt w (fun b => b = P) v l) (h0 : 0 < l.length) : RdL (w.alloc (.cells #[v, .bool false] 137)) w.heap.size P l false := by
  have h2 := h
  obtain ⟨A, c, rfl, hc, hj⟩ := h2
  obtain ⟨b, o, rfl, rfl, hb, _⟩ := hj h0
  exact ⟨by omega, _, heap_alloc_new w _, h.below ((Below.refl _ _).alloc (Nat.le_refl _) _)⟩
theorem node_told {W : World} {B : Nat} {T : TypeId} {z0 z1 z2 z3 z4 z5 z6 z7 z8 z9 z10 z11 z12 z13 a0 a1 a2 a3 a4 a5 a6 a7 a8 a9 a10 a11 a12 a13 : Value} (h : W.heap[B]? = some (.cells #[z0, z1, z2, z3, z4, z5, z6, z7, z8, z9, z10, z11, z12, z13] T (0, 0))) : ((((((((((((((W.setCell ⟨B, 0, none⟩ (a0)).setCell ⟨B, 1, none⟩ (a1)).setCell ⟨B, 2, none⟩ (a2)).setCell ⟨B, 3, none⟩ (a3)).setCell ⟨B, 4, none⟩ (a4)).setCell ⟨B, 5, none⟩ (a5)).setCell ⟨B, 6, none⟩ (a6)).setCell ⟨B, 7, none⟩ (a7)).setCell ⟨B, 8, none⟩ (a8)).setCell ⟨B, 9, none⟩ (a9)).setCell ⟨B, 10, none⟩ (a10)).setCell ⟨B, 11, none⟩ (a11)).setCell ⟨B, 12, none⟩ (a12)).setCell ⟨B, 13, none⟩ (a13)).heap[B]? = some (.cells #[a0, a1, a2, a3, a4, a5, a6, a7, a8, a9, a10, a11, a12, a13] T (0, 0)) := by
  have := (set_block (i := 13) (u := a13) (set_block (i := 12) (u := a12) (set_block (i := 11) (u := a11) (set_block (i := 10) (u := a10) (set_block (i := 9) (u := a9) (set_block (i := 8) (u := a8) (set_block (i := 7) (u := a7) (set_block (i := 6) (u := a6) (set_block (i := 5) (u := a5) (set_block (i := 4) (u := a4) (set_block (i := 3) (u := a3) (set_block (i := 2) (u := a2) (set_block (i := 1) (u := a1) (set_block (i := 0) (u := a0) h))))))))))))))
  rwa [set14] at this
theorem node_told_bl {w W : World} {B : Nat} {a0 a1 a2 a3 a4 a5 a6 a7 a8 a9 a10 a11 a12 a13 : Value} (h : Below w.heap.size w W) (hB : w.heap.size ≤ B) : Below w.heap.size w ((((((((((((((W.setCell ⟨B, 0, none⟩ (a0)).setCell ⟨B, 1, none⟩ (a1)).setCell ⟨B, 2, none⟩ (a2)).setCell ⟨B, 3, none⟩ (a3)).setCell ⟨B, 4, none⟩ (a4)).setCell ⟨B, 5, none⟩ (a5)).setCell ⟨B, 6, none⟩ (a6)).setCell ⟨B, 7, none⟩ (a7)).setCell ⟨B, 8, none⟩ (a8)).setCell ⟨B, 9, none⟩ (a9)).setCell ⟨B, 10, none⟩ (a10)).setCell ⟨B, 11, none⟩ (a11)).setCell ⟨B, 12, none⟩ (a12)).setCell ⟨B, 13, none⟩ (a13)) :=
  (bl_set (i := 13) (v := a13) (bl_set (i := 12) (v := a12) (bl_set (i := 11) (v := a11) (bl_set (i := 10) (v := a10) (bl_set (i := 9) (v := a9) (bl_set (i := 8) (v := a8) (bl_set (i := 7) (v := a7) (bl_set (i := 6) (v := a6) (bl_set (i := 5) (v := a5) (bl_set (i := 4) (v := a4) (bl_set (i := 3) (v := a3) (bl_set (i := 2) (v := a2) (bl_set (i := 1) (v := a1) (bl_set (i := 0) (v := a0) h hB) hB) hB) hB) hB) hB) hB) hB) hB) hB) hB) hB) hB) hB)
theorem node_told_far {W : World} {B b : Nat} {a0 a1 a2 a3 a4 a5 a6 a7 a8 a9 a10 a11 a12 a13 : Value} (hb : b ≠ B) : ((((((((((((((W.setCell ⟨B, 0, none⟩ (a0)).setCell ⟨B, 1, none⟩ (a1)).setCell ⟨B, 2, none⟩ (a2)).setCell ⟨B, 3, none⟩ (a3)).setCell ⟨B, 4, none⟩ (a4)).setCell ⟨B, 5, none⟩ (a5)).setCell ⟨B, 6, none⟩ (a6)).setCell ⟨B, 7, none⟩ (a7)).setCell ⟨B, 8, none⟩ (a8)).setCell ⟨B, 9, none⟩ (a9)).setCell ⟨B, 10, none⟩ (a10)).setCell ⟨B, 11, none⟩ (a11)).setCell ⟨B, 12, none⟩ (a12)).setCell ⟨B, 13, none⟩ (a13)).heap[b]? = W.heap[b]? :=
  (Below.heap_setCell _ ⟨B, 13, none⟩ _ b hb).trans ((Below.heap_setCell _ ⟨B, 12, none⟩ _ b hb).trans ((Below.heap_setCell _ ⟨B, 11, none⟩ _ b hb).trans ((Below.heap_setCell _ ⟨B, 10, none⟩ _ b hb).trans ((Below.heap_setCell _ ⟨B, 9, none⟩ _ b hb).trans ((Below.heap_setCell _ ⟨B, 8, none⟩ _ b hb).trans ((Below.heap_setCell _ ⟨B, 7, none⟩ _ b hb).trans ((Below.heap_setCell _ ⟨B, 6, none⟩ _ b hb).trans ((Below.heap_setCell _ ⟨B, 5, none⟩ _ b hb).trans ((Below.heap_setCell _ ⟨B, 4, none⟩ _ b hb).trans ((Below.heap_setCell _ ⟨B, 3, none⟩ _ b hb).trans ((Below.heap_setCell _ ⟨B, 2, none⟩ _ b hb).trans ((Below.heap_setCell _ ⟨B, 1, none⟩ _ b hb).trans (Below.heap_setCell _ ⟨B, 0, none⟩ _ b hb)))))))))))))
theorem results_line {fn : Func} {tm : Array Value} {W : World} {b : Nat} {u a0 a1 a2 a3 a4 a5 a6 a7 a8 a9 a10 a11 a12 a13 : Value} (hf : fn.results = #[.cell 2 83, .tmp 3]) (ht : tm[2]? = some (.pointer (some ⟨b, 0, none⟩))) (hu : tm[3]? = some u) (hx : W.heap[b]? = some (.cells #[a0, a1, a2, a3, a4, a5, a6, a7, a8, a9, a10, a11, a12, a13] 83 (0, 0))) :
    Sem.run Tryz.prog (results fn tm) W = .ok (.tuple #[.agg #[a0, a1, a2, a3, a4, a5, a6, a7, a8, a9, a10, a11, a12, a13], u]) W := by
  have s0 := cellN (i := 0) (x := a0) hx rfl
  have s1 := cellN (i := 1) (x := a1) hx rfl
  have s2 := cellN (i := 2) (x := a2) hx rfl
  have s3 := cellN (i := 3) (x := a3) hx rfl
  have s4 := cellN (i := 4) (x := a4) hx rfl
  have s5 := cellN (i := 5) (x := a5) hx rfl
  have s6 := cellN (i := 6) (x := a6) hx rfl
  have s7 := cellN (i := 7) (x := a7) hx rfl
  have s8 := cellN (i := 8) (x := a8) hx rfl
  have s9 := cellN (i := 9) (x := a9) hx rfl
  have s10 := cellN (i := 10) (x := a10) hx rfl
  have s11 := cellN (i := 11) (x := a11) hx rfl
  have s12 := cellN (i := 12) (x := a12) hx rfl
  have s13 := cellN (i := 13) (x := a13) hx rfl
  simp [results, hf, go_sem, ht, hu, s0, s1, s2, s3, s4, s5, s6, s7, s8, s9, s10, s11, s12, s13]
theorem results_line_dr {fn : Func} {tm : Array Value} {W : World} {b : Nat} {u a0 a1 a2 a3 a4 a5 a6 a7 a8 a9 a10 a11 a12 a13 : Value} (hf : fn.results = #[.cell 2 83, .tmp 3]) (ht : tm[2]? = some (.pointer (some ⟨b, 0, none⟩))) (hu : tm[3]? = some u) (hx : W.heap[b]? = some (.cells #[a0, a1, a2, a3, a4, a5, a6, a7, a8, a9, a10, a11, a12, a13] 83 (0, 0))) :
    Sem.run Tryz.prog (results fn tm) W.drew = .ok (.tuple #[.agg #[a0, a1, a2, a3, a4, a5, a6, a7, a8, a9, a10, a11, a12, a13], u]) W.drew := results_line hf ht hu hx
theorem line_end0 {w W X : World} {v : Value} {n : Gn} (hfar : ∀ b, b ≠ w.heap.size → X.heap[b]? = W.heap[b]?) (hsz : X.heap.size = W.heap.size) (hbl : Below w.heap.size w X) (hg : GnAt W (fun b => w.heap.size + 1 ≤ b) 6 v n) : GnAt X.drew (fun b => w.heap.size ≤ b) 6 v n ∧ Below w.heap.size w X.drew :=
  ⟨hg.move fun b hb hl => ⟨by omega, by rw [World.size_drew, hsz]; exact hl, fun o => World.cell?_of_block (hfar b (by omega))⟩, bl_dr hbl⟩
theorem line_end {w W : World} {v : Value} {n : Gn} {a0 a1 a2 a3 a4 a5 a6 a7 a8 a9 a10 a11 a12 a13 : Value} (hg : GnAt W (fun b => w.heap.size + 1 ≤ b) 6 v n) (hb : Below w.heap.size w W) : GnAt (((((((((((((((W.setCell ⟨w.heap.size, 0, none⟩ (a0)).setCell ⟨w.heap.size, 1, none⟩ (a1)).setCell ⟨w.heap.size, 2, none⟩ (a2)).setCell ⟨w.heap.size, 3, none⟩ (a3)).setCell ⟨w.heap.size, 4, none⟩ (a4)).setCell ⟨w.heap.size, 5, none⟩ (a5)).setCell ⟨w.heap.size, 6, none⟩ (a6)).setCell ⟨w.heap.size, 7, none⟩ (a7)).setCell ⟨w.heap.size, 8, none⟩ (a8)).setCell ⟨w.heap.size, 9, none⟩ (a9)).setCell ⟨w.heap.size, 10, none⟩ (a10)).setCell ⟨w.heap.size, 11, none⟩ (a11)).setCell ⟨w.heap.size, 12, none⟩ (a12)).setCell ⟨w.heap.size, 13, none⟩ (a13))).drew (fun b => w.heap.size ≤ b) 6 v n ∧ Below w.heap.size w (((((((((((((((W.setCell ⟨w.heap.size, 0, none⟩ (a0)).setCell ⟨w.heap.size, 1, none⟩ (a1)).setCell ⟨w.heap.size, 2, none⟩ (a2)).setCell ⟨w.heap.size, 3, none⟩ (a3)).setCell ⟨w.heap.size, 4, none⟩ (a4)).setCell ⟨w.heap.size, 5, none⟩ (a5)).setCell ⟨w.heap.size, 6, none⟩ (a6)).setCell ⟨w.heap.size, 7, none⟩ (a7)).setCell ⟨w.heap.size, 8, none⟩ (a8)).setCell ⟨w.heap.size, 9, none⟩ (a9)).setCell ⟨w.heap.size, 10, none⟩ (a10)).setCell ⟨w.heap.size, 11, none⟩ (a11)).setCell ⟨w.heap.size, 12, none⟩ (a12)).setCell ⟨w.heap.size, 13, none⟩ (a13))).drew :=
  line_end0 (fun b hb => node_told_far hb) (by simp only [World.size_setCell]) (node_told_bl hb (Nat.le_refl _)) hg
set_option maxRecDepth 100000 in
set_option maxHeartbeats 4000000 in
theorem readLine_any {q : List UInt8 → Option (List Int)} (hq : PlacesOk q) (line : List UInt8) (w : World) (hs : line.length ≤ 1000000) (hG : Gk w) :
    Calls Tryz.prog 48 #[.string ⟨line.toArray⟩] w fun e w' => LineOut w w' e (lineR q line) := by
  obtain ⟨m, hm⟩ := hG.mx
  have hsz : (ByteArray.mk line.toArray).size = line.length := by simp [ByteArray.size]
  have hcl := cut_len line
  obtain ⟨word, rest, fnd, hcut⟩ : ∃ word rest fnd, Lib.cut line [32] = (word, rest, fnd) := ⟨_, _, _, rfl⟩
  have HQ := Lib.hid hq
  have hB0 : Below w.heap.size w (w.alloc (.cells #[.int .i64 0, .slice none 0 0, .slice none 0 0, .string ⟨#[]⟩, .int .i64 0, .slice none 0 0, .int .i64 0, .int .i64 0, .int .i64 0, .int .i64 0, .int .i64 0, .int .i64 0, .int .i64 0, .bool false] 83)) := (Below.refl _ w).alloc (Nat.le_refl _) _
  have HCUT := Lib.hid (Tryz.strings_Cut ⟨line.toArray⟩ ⟨#[32]⟩ m (w.alloc (.cells #[.int .i64 0, .slice none 0 0, .slice none 0 0, .string ⟨#[]⟩, .int .i64 0, .slice none 0 0, .int .i64 0, .int .i64 0, .int .i64 0, .int .i64 0, .int .i64 0, .int .i64 0, .int .i64 0, .bool false] 83)) (by omega) ((World.cell?_of_block (hB0.block _ (World.block_lt_of_cell? w _ hm))).trans hm))
  have hcb : Lib.cut (ByteArray.mk line.toArray).data.toList (ByteArray.mk #[32]).data.toList = (word, rest, fnd) := hcut
  rw [hcb] at HCUT
  have HLR : Hid (lineR q line = opR q rest (gops.find? fun x => x.word == word)) := Lib.hid (by unfold lineR; rw [hcut])
  rw [hcut] at hcl
  have HRL : Hid (rest.length ≤ 1000000) := Lib.hid (by have := hcl.2; simp at this; omega)
  have HG := Lib.hid hG
  obtain ⟨tt, fr, hg⟩ := hG.op
  have HB0 := Lib.hid hB0
  have HGO := Lib.hid hg
  clear hcb hcut hB0 hm hsz hcl hs hG hq hg
  go_enter Tryz.func48, Tryz.ntmps48
  go_wp2_with (first
    | (go_at_call 47; (with_reducible refine HCUT.out.mono ?_); rintro e w1 ⟨rfl, nd, hw1⟩; have hb1 : Below w.heap.size w w1 := (congrArg (Below w.heap.size w) hw1).mpr (bl_drN HB0.out nd); have hg1 := bl_blk hb1 HGO.out; have hz : w1.heap[w.heap.size]? = some (.cells #[.int .i64 0, .slice none 0 0, .slice none 0 0, .string ⟨#[]⟩, .int .i64 0, .slice none 0 0, .int .i64 0, .int .i64 0, .int .i64 0, .int .i64 0, .int .i64 0, .int .i64 0, .int .i64 0, .bool false] 83 (0, 0)) := (congrArg (fun W : World => W.heap[w.heap.size]?) hw1).trans (heap_alloc_new w _); have HB1 := Lib.hid hb1; have HZ := Lib.hid hz; clear hw1 hb1 hz)
    | (refine wpList_load_row rfl 134 _ rfl 0 rfl tt _ fr _ hg1 Tryz.underlying134 rfl (by kernel_rfl) ?_)
    | fail)
  clear hg1 HCUT HB0 HGO
  go_loopw [19] (fun i wr => ∃ k : Nat, k ≤ 6 ∧ i = .int .i64 k ∧ Hid (lineR q line = opR q rest ((gops.drop k).find? fun x => x.word == word)) ∧ Below w.heap.size w wr ∧ w.heap.size < wr.heap.size ∧ wr.heap[w.heap.size]? = some (.cells #[.int .i64 0, .slice none 0 0, .slice none 0 0, .string ⟨#[]⟩, .int .i64 0, .slice none 0 0, .int .i64 0, .int .i64 0, .int .i64 0, .int .i64 0, .int .i64 0, .int .i64 0, .int .i64 0, .bool false] 83 (0, 0))) (fun i _ => 6 - (intOf i).toNat)
  case atStart => exact ⟨0, Nat.zero_le _, rfl, HLR, HB1.out, cell_lt HZ.out, HZ.out⟩
  case round =>
    obtain ⟨k, hk, rfl, HK, hb, hz, hc⟩ := hrel
    clear HB1 HZ HLR
    have HC := Lib.hid hc
    have HB := Lib.hid hb
    clear hc hb
    by_cases hlk : k < 6
    · obtain ⟨x, hx⟩ : ∃ x, gops[k]? = some x := ⟨gops[k]'hlk, List.getElem?_eq_getElem hlk⟩
      have hwa := ops_at k x hx
      unfold Gop.val at hwa
      have hmem : x ∈ gops := List.mem_of_getElem? hx
      obtain ⟨hp1, hp2, hp3⟩ := gops_parts x hmem
      obtain ⟨pn, hpn⟩ : ∃ pn, x.parts.toNat = pn := ⟨_, rfl⟩
      rw [hpn] at hp1 hp2 hp3
      rw [hp1] at hwa
      have hd : gops.drop k = x :: gops.drop (k + 1) := by
        rw [List.drop_eq_getElem_cons hlk]
        rw [List.getElem?_eq_getElem hlk] at hx
        injection hx with hx
        rw [hx]
      have HD := Lib.hid hd
      have HMEM := Lib.hid hmem
      have HPN := Lib.hid hpn
      have HP1 := Lib.hid hp1
      clear hd hx hmem hpn hp1
      by_cases hkd : x.word = word
      · have HE : Hid (lineR q line = if ((Lib.splitN rest [32] pn).length : Int) < pn then none else nodeP q x.number (Lib.splitN rest [32] pn)) := by
          show _ = _
          rw [HK.out, HD.out, List.find?_cons_of_pos (by simpa using hkd)]
          show (if _ then _ else _) = _
          rw [HPN.out, HP1.out]
        subst hkd
        clear HK HD
        have HBO : Hid (∀ o : Obj, Below w.heap.size w (wr.alloc o)) := Lib.hid fun o => HB.out.alloc (by omega) o
        have HSP := fun W : World => fun hg => Lib.hid (split_b rest pn W HRL.out hp2 hp3 hg)
        by_cases hlen : ((Lib.splitN rest [32] pn).length : Int) < pn
        · have HN : Hid (lineR q line = none) := by show _ = _; rw [HE.out, if_pos hlen]
          go_wp2_with (first
            | (go_at_call 78; (with_reducible refine (HSP _ (HG.out.below (HBO.out _))).out.mono ?_); rintro e w2 ⟨⟨cp, rfl, hst⟩, hb2⟩; have HB2 := Lib.hid ((HBO.out _).trans (hb2.mono (by simp; omega))); have hc2 := bl_blk hb2 ((Below.heap_alloc wr _ _ hz).trans HC.out); have ho2 := bl_blk hb2 (heap_alloc_new wr _); have o0 := cellN (i := 0) (x := .int .i64 x.number) ho2 rfl; have o2 := cellN (i := 2) (x := .int .i64 pn) ho2 rfl; have c0 := cellN (i := 0) (x := .int .i64 0) hc2 rfl; have d0 := frozN (i := 0) hc2; have c1 := cellN (i := 1) (x := .slice none 0 0) hc2 rfl; have d1 := frozN (i := 1) hc2; have c2 := cellN (i := 2) (x := .slice none 0 0) hc2 rfl; have d2 := frozN (i := 2) hc2; have c3 := cellN (i := 3) (x := .string ⟨#[]⟩) hc2 rfl; have d3 := frozN (i := 3) hc2; have c4 := cellN (i := 4) (x := .int .i64 0) hc2 rfl; have d4 := frozN (i := 4) hc2; have c5 := cellN (i := 5) (x := .slice none 0 0) hc2 rfl; have d5 := frozN (i := 5) hc2; have c6 := cellN (i := 6) (x := .int .i64 0) hc2 rfl; have d6 := frozN (i := 6) hc2; have c7 := cellN (i := 7) (x := .int .i64 0) hc2 rfl; have d7 := frozN (i := 7) hc2; have c8 := cellN (i := 8) (x := .int .i64 0) hc2 rfl; have d8 := frozN (i := 8) hc2; have c9 := cellN (i := 9) (x := .int .i64 0) hc2 rfl; have d9 := frozN (i := 9) hc2; have c10 := cellN (i := 10) (x := .int .i64 0) hc2 rfl; have d10 := frozN (i := 10) hc2; have c11 := cellN (i := 11) (x := .int .i64 0) hc2 rfl; have d11 := frozN (i := 11) hc2; have c12 := cellN (i := 12) (x := .int .i64 0) hc2 rfl; have d12 := frozN (i := 12) hc2; have c13 := cellN (i := 13) (x := .bool false) hc2 rfl; have d13 := frozN (i := 13) hc2; have HC2 := Lib.hid hc2; clear hst hb2 hc2 ho2)
            | fail)
          refine bodyPost_ret (v := .tuple #[.agg #[.int .i64 0, .slice none 0 0, .slice none 0 0, .string ⟨#[]⟩, .int .i64 0, .slice none 0 0, .int .i64 0, .int .i64 0, .int .i64 0, .int .i64 0, .int .i64 0, .int .i64 0, .int .i64 0, .bool false], .bool false]) (results_line Tryz.results48 rfl rfl (node_told HC2.out)) rfl ?_
          rw [HN.out]
          exact ⟨⟨gz 0, none, none, none, 0, 0, 0, rfl, (fun v hv => by cases hv), none, none, none, 0, 0, 0, rfl, IntsAt.nil _ _, IntsAt.nil _ _, tyZ_at _ _⟩, node_told_bl HB2.out (Nat.le_refl _)⟩
        · have HN : Hid (lineR q line = nodeP q x.number (Lib.splitN rest [32] pn)) := by show _ = _; rw [HE.out, if_neg hlen]
          have hfew := splitK_few [32] (min pn (rest.length + 1) - 1) rest
          have hpl : (Lib.splitN rest [32] pn).length = pn := by unfold Lib.splitN at hlen ⊢; omega
          have HPL := Lib.hid hpl
          have HLL : Hid (∀ y ∈ Lib.splitN rest [32] pn, y.length ≤ 1000000) := Lib.hid fun y hy => Nat.le_trans (splitK_len _ _ _ _ hy) HRL.out
          generalize Lib.splitN rest [32] pn = ps at *
          clear hfew hpl
          go_wp2_with (first
            | (go_at_call 78; (with_reducible refine (HSP _ (HG.out.below (HBO.out _))).out.mono ?_); rintro e w2 ⟨⟨cp, rfl, hst⟩, hb2⟩; have HB2 := Lib.hid ((HBO.out _).trans (hb2.mono (by simp; omega))); have hc2 := bl_blk hb2 ((Below.heap_alloc wr _ _ hz).trans HC.out); have ho2 := bl_blk hb2 (heap_alloc_new wr _); have o0 := cellN (i := 0) (x := .int .i64 x.number) ho2 rfl; have o2 := cellN (i := 2) (x := .int .i64 pn) ho2 rfl; rw [World.size_alloc] at hst; have HRD := Lib.hid (rd_start hst (by have := HPL.out; omega)); have hw2 : wr.heap.size < w2.heap.size := cell_lt ho2; have HGB := Lib.hid (HG.out.below HB2.out); have HC2 := Lib.hid hc2; clear hst hb2 hc2 ho2)
            | (go_at_call 79; (with_reducible refine (readNode_any HQ.out w2 _ w2.heap.size _ x HMEM.out ps ((congrArg Int.ofNat HPL.out).trans HP1.out.symm) HGB.out ((Below.refl _ _).alloc (Nat.le_refl _) _) (Nat.le_refl _) HLL.out HRD.out).mono ?_); rintro e w3 ⟨⟨n, IA, SA, A, ic, sc, c, rfl, hv, hgn⟩, ⟨_, vr, hr, _⟩, hon⟩; unfold Gn.val; have HV := Lib.hid hv; have HGN := Lib.hid hgn; have hc3 := ((hon.block w.heap.size (by have := cell_lt HC2.out; simp; omega) (fun e => by have := Option.some.inj e; have := cell_lt HC2.out; omega)).trans (Below.heap_alloc w2 _ _ (cell_lt HC2.out))).trans HC2.out; have HC3 := Lib.hid hc3; have HR3 := Lib.hid hr; have HON := Lib.hid hon; clear hv hgn hr hon hc3)
            | fail)
          have hc4 := alloc_old (o := .cells #[.int .i64 n.op, .slice IA n.ins.length ic, .slice SA n.side.length sc, .string ⟨n.text.toArray⟩, .int .i64 n.ty.kind, .slice A n.ty.args.length c, .int .i64 n.f0, .int .i64 n.f1, .int .i64 n.f2, .int .i64 n.f3, .int .i64 n.e, .int .i64 n.l, .int .i64 n.lt, .bool n.acc] 83) HC3.out
          have hr4 := alloc_old (o := .cells #[.int .i64 n.op, .slice IA n.ins.length ic, .slice SA n.side.length sc, .string ⟨n.text.toArray⟩, .int .i64 n.ty.kind, .slice A n.ty.args.length c, .int .i64 n.f0, .int .i64 n.f1, .int .i64 n.f2, .int .i64 n.f3, .int .i64 n.e, .int .i64 n.l, .int .i64 n.lt, .bool n.acc] 83) HR3.out
          have hn4 := heap_alloc_new w3 (.cells #[.int .i64 n.op, .slice IA n.ins.length ic, .slice SA n.side.length sc, .string ⟨n.text.toArray⟩, .int .i64 n.ty.kind, .slice A n.ty.args.length c, .int .i64 n.f0, .int .i64 n.f1, .int .i64 n.f2, .int .i64 n.f3, .int .i64 n.e, .int .i64 n.l, .int .i64 n.lt, .bool n.acc] 83)
          have r1 := cellN (i := 1) (x := .bool (!(nodeP q x.number ps).isSome)) hr4 rfl
          have c0 := cellN (i := 0) (x := .int .i64 0) hc4 rfl; have d0 := frozN (i := 0) hc4; have c1 := cellN (i := 1) (x := .slice none 0 0) hc4 rfl; have d1 := frozN (i := 1) hc4; have c2 := cellN (i := 2) (x := .slice none 0 0) hc4 rfl; have d2 := frozN (i := 2) hc4; have c3 := cellN (i := 3) (x := .string ⟨#[]⟩) hc4 rfl; have d3 := frozN (i := 3) hc4; have c4 := cellN (i := 4) (x := .int .i64 0) hc4 rfl; have d4 := frozN (i := 4) hc4; have c5 := cellN (i := 5) (x := .slice none 0 0) hc4 rfl; have d5 := frozN (i := 5) hc4; have c6 := cellN (i := 6) (x := .int .i64 0) hc4 rfl; have d6 := frozN (i := 6) hc4; have c7 := cellN (i := 7) (x := .int .i64 0) hc4 rfl; have d7 := frozN (i := 7) hc4; have c8 := cellN (i := 8) (x := .int .i64 0) hc4 rfl; have d8 := frozN (i := 8) hc4; have c9 := cellN (i := 9) (x := .int .i64 0) hc4 rfl; have d9 := frozN (i := 9) hc4; have c10 := cellN (i := 10) (x := .int .i64 0) hc4 rfl; have d10 := frozN (i := 10) hc4; have c11 := cellN (i := 11) (x := .int .i64 0) hc4 rfl; have d11 := frozN (i := 11) hc4; have c12 := cellN (i := 12) (x := .int .i64 0) hc4 rfl; have d12 := frozN (i := 12) hc4; have c13 := cellN (i := 13) (x := .bool false) hc4 rfl; have d13 := frozN (i := 13) hc4
          have x0 := cellN (i := 0) (x := .int .i64 n.op) hn4 rfl; have x1 := cellN (i := 1) (x := .slice IA n.ins.length ic) hn4 rfl; have x2 := cellN (i := 2) (x := .slice SA n.side.length sc) hn4 rfl; have x3 := cellN (i := 3) (x := .string ⟨n.text.toArray⟩) hn4 rfl; have x4 := cellN (i := 4) (x := .int .i64 n.ty.kind) hn4 rfl; have x5 := cellN (i := 5) (x := .slice A n.ty.args.length c) hn4 rfl; have x6 := cellN (i := 6) (x := .int .i64 n.f0) hn4 rfl; have x7 := cellN (i := 7) (x := .int .i64 n.f1) hn4 rfl; have x8 := cellN (i := 8) (x := .int .i64 n.f2) hn4 rfl; have x9 := cellN (i := 9) (x := .int .i64 n.f3) hn4 rfl; have x10 := cellN (i := 10) (x := .int .i64 n.e) hn4 rfl; have x11 := cellN (i := 11) (x := .int .i64 n.l) hn4 rfl; have x12 := cellN (i := 12) (x := .int .i64 n.lt) hn4 rfl; have x13 := cellN (i := 13) (x := .bool n.acc) hn4 rfl
          have HC4 := Lib.hid hc4
          have HBE : Hid (Below w.heap.size w (w3.alloc (.cells #[.int .i64 n.op, .slice IA n.ins.length ic, .slice SA n.side.length sc, .string ⟨n.text.toArray⟩, .int .i64 n.ty.kind, .slice A n.ty.args.length c, .int .i64 n.f0, .int .i64 n.f1, .int .i64 n.f2, .int .i64 n.f3, .int .i64 n.e, .int .i64 n.l, .int .i64 n.lt, .bool n.acc] 83))) := Lib.hid (by
            have hw2 : w.heap.size < w2.heap.size := cell_lt HC2.out
            have h3 := ((Below.refl w2.heap.size w2).alloc (Nat.le_refl _) (.cells #[.slice (some ⟨wr.heap.size + 1, 0, none⟩) ps.length cp, .bool false] 137)).trans (HON.out.below (Nat.le_refl _) (by simp))
            exact bl_al (bl_tr HB2.out h3) _)
          have HGE : Hid (GnAt (w3.alloc (.cells #[.int .i64 n.op, .slice IA n.ins.length ic, .slice SA n.side.length sc, .string ⟨n.text.toArray⟩, .int .i64 n.ty.kind, .slice A n.ty.args.length c, .int .i64 n.f0, .int .i64 n.f1, .int .i64 n.f2, .int .i64 n.f3, .int .i64 n.e, .int .i64 n.l, .int .i64 n.lt, .bool n.acc] 83)) (fun b => w.heap.size + 1 ≤ b) 6 (n.val IA SA A ic sc c) n) := Lib.hid (by
            have hw2 : w.heap.size < w2.heap.size := cell_lt HC2.out
            have h4 := HGN.out.below ((Below.refl w3.heap.size w3).alloc (Nat.le_refl _) (.cells #[.int .i64 n.op, .slice IA n.ins.length ic, .slice SA n.side.length sc, .string ⟨n.text.toArray⟩, .int .i64 n.ty.kind, .slice A n.ty.args.length c, .int .i64 n.f0, .int .i64 n.f1, .int .i64 n.f2, .int .i64 n.f3, .int .i64 n.e, .int .i64 n.l, .int .i64 n.lt, .bool n.acc] 83))
            refine h4.move fun b hb hl => ⟨?_, hl, fun _ => rfl⟩
            rw [World.size_alloc] at hb
            omega)
          clear hc4 hr4 hn4 HGN HON HR3 HC3 HC2
          go_region
          all_goals
            go_wp2
            refine bodyPost_ret (v := .tuple #[.agg #[.int .i64 n.op, .slice IA n.ins.length ic, .slice SA n.side.length sc, .string ⟨n.text.toArray⟩, .int .i64 n.ty.kind, .slice A n.ty.args.length c, .int .i64 n.f0, .int .i64 n.f1, .int .i64 n.f2, .int .i64 n.f3, .int .i64 n.e, .int .i64 n.l, .int .i64 n.lt, .bool n.acc], .bool (nodeP q x.number ps).isSome]) (results_line_dr Tryz.results48 rfl rfl (node_told HC4.out)) rfl ?_
            have hend := line_end (a0 := .int .i64 n.op) (a1 := .slice IA n.ins.length ic) (a2 := .slice SA n.side.length sc) (a3 := .string ⟨n.text.toArray⟩) (a4 := .int .i64 n.ty.kind) (a5 := .slice A n.ty.args.length c) (a6 := .int .i64 n.f0) (a7 := .int .i64 n.f1) (a8 := .int .i64 n.f2) (a9 := .int .i64 n.f3) (a10 := .int .i64 n.e) (a11 := .int .i64 n.l) (a12 := .int .i64 n.lt) (a13 := .bool n.acc) HGE.out HBE.out
            rw [HN.out]
            exact ⟨⟨n, IA, SA, A, ic, sc, c, rfl, HV.out, hend.1⟩, hend.2⟩
      · have hke : (x.word == word) = false := by simp [hkd]
        have HE : Hid (lineR q line = opR q rest ((gops.drop (k + 1)).find? fun x => x.word == word)) := by show _ = _; rw [HK.out, HD.out, List.find?_cons_of_neg (by simp [hkd])]
        clear hkd HK HD
        go_wp2_with (fail)
        go_roundw
        case rel => exact ⟨k + 1, by omega, by go_num, HE, HB.out.alloc (by omega) _, by simp; omega, (Below.heap_alloc wr _ _ hz).trans HC.out⟩
        case measure => simp [intOf]; omega
    · obtain rfl : k = 6 := by omega
      have HE : Hid (lineR q line = none) := by show _ = _; rw [HK.out]; rfl
      have hc := HC.out
      have c0 := cellN (i := 0) (x := .int .i64 0) hc rfl; have d0 := frozN (i := 0) hc; have c1 := cellN (i := 1) (x := .slice none 0 0) hc rfl; have d1 := frozN (i := 1) hc; have c2 := cellN (i := 2) (x := .slice none 0 0) hc rfl; have d2 := frozN (i := 2) hc; have c3 := cellN (i := 3) (x := .string ⟨#[]⟩) hc rfl; have d3 := frozN (i := 3) hc; have c4 := cellN (i := 4) (x := .int .i64 0) hc rfl; have d4 := frozN (i := 4) hc; have c5 := cellN (i := 5) (x := .slice none 0 0) hc rfl; have d5 := frozN (i := 5) hc; have c6 := cellN (i := 6) (x := .int .i64 0) hc rfl; have d6 := frozN (i := 6) hc; have c7 := cellN (i := 7) (x := .int .i64 0) hc rfl; have d7 := frozN (i := 7) hc; have c8 := cellN (i := 8) (x := .int .i64 0) hc rfl; have d8 := frozN (i := 8) hc; have c9 := cellN (i := 9) (x := .int .i64 0) hc rfl; have d9 := frozN (i := 9) hc; have c10 := cellN (i := 10) (x := .int .i64 0) hc rfl; have d10 := frozN (i := 10) hc; have c11 := cellN (i := 11) (x := .int .i64 0) hc rfl; have d11 := frozN (i := 11) hc; have c12 := cellN (i := 12) (x := .int .i64 0) hc rfl; have d12 := frozN (i := 12) hc; have c13 := cellN (i := 13) (x := .bool false) hc rfl; have d13 := frozN (i := 13) hc
      clear hc
      go_wp2_with (fail)
      refine bodyPost_ret (v := .tuple #[.agg #[.int .i64 0, .slice none 0 0, .slice none 0 0, .string ⟨#[]⟩, .int .i64 0, .slice none 0 0, .int .i64 0, .int .i64 0, .int .i64 0, .int .i64 0, .int .i64 0, .int .i64 0, .int .i64 0, .bool false], .bool false]) (results_line Tryz.results48 rfl rfl (node_told HC.out)) rfl ?_
      rw [HE.out]
      exact ⟨⟨gz 0, none, none, none, 0, 0, 0, rfl, (fun v hv => by cases hv), none, none, none, 0, 0, 0, rfl, IntsAt.nil _ _, IntsAt.nil _ _, tyZ_at _ _⟩, node_told_bl HB.out (Nat.le_refl _)⟩
end Go.Proofs.YtllnamhgnbdkmaaGreatDoor
set_option linter.unusedVariables false
set_option linter.unusedSimpArgs false
namespace Go.Proofs.YtllnamhgnbdkmaaGreatDoor
open Go.RowKit Go.Shelf
theorem infoN : (Tryz.prog.info? 83).map (fun i => (i.zero, i.size, i.bytes)) = some (some (.agg #[.int .i64 0, .slice none 0 0, .slice none 0 0, .string ⟨#[]⟩, .int .i64 0, .slice none 0 0, .int .i64 0, .int .i64 0, .int .i64 0, .int .i64 0, .int .i64 0, .int .i64 0, .int .i64 0, .bool false]), 14, 168) := by kernel_rfl
set_option maxRecDepth 100000 in
set_option maxHeartbeats 1000000 in
theorem add_few (w : World) (B : Nat) (v : Value) (k : Nat) (xs : List Value) (n : Gn) (IA SA A : Option Addr) (ic sc c : Nat) (hv : w.ownsRow B 83 14 v k xs) (hk : k ≤ 32) (hB : B ≤ w.heap.size) :
    Calls Tryz.prog 49 #[v, .agg #[.int .i64 n.op, .slice IA n.ins.length ic, .slice SA n.side.length sc, .string ⟨n.text.toArray⟩, .int .i64 n.ty.kind, .slice A n.ty.args.length c, .int .i64 n.f0, .int .i64 n.f1, .int .i64 n.f2, .int .i64 n.f3, .int .i64 n.e, .int .i64 n.l, .int .i64 n.lt, .bool n.acc]] w fun e w' => ∃ v', e = .returned v' ∧ w'.ownsRow B 83 14 v' (k + 1) (xs ++ [.int .i64 n.op, .slice IA n.ins.length ic, .slice SA n.side.length sc, .string ⟨n.text.toArray⟩, .int .i64 n.ty.kind, .slice A n.ty.args.length c, .int .i64 n.f0, .int .i64 n.f1, .int .i64 n.f2, .int .i64 n.f3, .int .i64 n.e, .int .i64 n.l, .int .i64 n.lt, .bool n.acc]) ∧ w.grownBy w' v.ownBlock ∧ (v'.ownBlock = v.ownBlock ∨ ∃ g, v'.ownBlock = some g ∧ w.heap.size ≤ g) := by
  obtain ⟨i0, hi, hq0, hq1, hq2⟩ := info_parts infoN
  obtain ⟨Av, cv, rfl⟩ := own_slice hv
  have HV := Lib.hid hv
  have hnb : ¬ ((32 : Int) < (k : Int)) := by omega
  have HNW : Hid (((w.alloc (.cells #[.int .i64 n.op, .slice IA n.ins.length ic, .slice SA n.side.length sc, .string ⟨n.text.toArray⟩, .int .i64 n.ty.kind, .slice A n.ty.args.length c, .int .i64 n.f0, .int .i64 n.f1, .int .i64 n.f2, .int .i64 n.f3, .int .i64 n.e, .int .i64 n.l, .int .i64 n.lt, .bool n.acc] 83)).alloc (.cells #[.int .i64 n.op, .slice IA n.ins.length ic, .slice SA n.side.length sc, .string ⟨n.text.toArray⟩, .int .i64 n.ty.kind, .slice A n.ty.args.length c, .int .i64 n.f0, .int .i64 n.f1, .int .i64 n.f2, .int .i64 n.f3, .int .i64 n.e, .int .i64 n.l, .int .i64 n.lt, .bool n.acc] 83)).heap[w.heap.size + 1]? = some (.cells #[.int .i64 n.op, .slice IA n.ins.length ic, .slice SA n.side.length sc, .string ⟨n.text.toArray⟩, .int .i64 n.ty.kind, .slice A n.ty.args.length c, .int .i64 n.f0, .int .i64 n.f1, .int .i64 n.f2, .int .i64 n.f3, .int .i64 n.e, .int .i64 n.l, .int .i64 n.lt, .bool n.acc] 83 (0, 0))) := Lib.hid (by
    have := heap_alloc_new (w.alloc (.cells #[.int .i64 n.op, .slice IA n.ins.length ic, .slice SA n.side.length sc, .string ⟨n.text.toArray⟩, .int .i64 n.ty.kind, .slice A n.ty.args.length c, .int .i64 n.f0, .int .i64 n.f1, .int .i64 n.f2, .int .i64 n.f3, .int .i64 n.e, .int .i64 n.l, .int .i64 n.lt, .bool n.acc] 83)) (.cells #[.int .i64 n.op, .slice IA n.ins.length ic, .slice SA n.side.length sc, .string ⟨n.text.toArray⟩, .int .i64 n.ty.kind, .slice A n.ty.args.length c, .int .i64 n.f0, .int .i64 n.f1, .int .i64 n.f2, .int .i64 n.f3, .int .i64 n.e, .int .i64 n.l, .int .i64 n.lt, .bool n.acc] 83)
    rwa [World.size_alloc] at this)
  clear hv
  go_enter Tryz.func49, Tryz.ntmps49
  go_wp2_with (at_builtin; refine wpList_append_own_at _ rfl _ _ 25 rfl B 83 i0 (.agg #[.int .i64 0, .slice none 0 0, .slice none 0 0, .string ⟨#[]⟩, .int .i64 0, .slice none 0 0, .int .i64 0, .int .i64 0, .int .i64 0, .int .i64 0, .int .i64 0, .int .i64 0, .int .i64 0, .bool false]) 14 168 Tryz.underlying25 hi hq0 hq1 hq2 rfl (by decide) _ k xs rfl ((HV.out.alloc _).alloc _) ⟨w.heap.size + 1, 0, none⟩ 1 1 [.int .i64 n.op, .slice IA n.ins.length ic, .slice SA n.side.length sc, .string ⟨n.text.toArray⟩, .int .i64 n.ty.kind, .slice A n.ty.args.length c, .int .i64 n.f0, .int .i64 n.f1, .int .i64 n.f2, .int .i64 n.f3, .int .i64 n.e, .int .i64 n.l, .int .i64 n.lt, .bool n.acc] rfl rfl (World.news_of_block (cs := #[.int .i64 n.op, .slice IA n.ins.length ic, .slice SA n.side.length sc, .string ⟨n.text.toArray⟩, .int .i64 n.ty.kind, .slice A n.ty.args.length c, .int .i64 n.f0, .int .i64 n.f1, .int .i64 n.f2, .int .i64 n.f3, .int .i64 n.e, .int .i64 n.l, .int .i64 n.lt, .bool n.acc]) (t := 83) (fr := (0, 0)) HNW.out) (by simp [Value.oneCell']) (by unfold maxLen; omega) (by omega) (by simp; omega) ?_; intro v7 w7 hown7 hg7 _ hat7)
  go_ret
  have hba : Below w.heap.size w ((w.alloc (.cells #[.int .i64 n.op, .slice IA n.ins.length ic, .slice SA n.side.length sc, .string ⟨n.text.toArray⟩, .int .i64 n.ty.kind, .slice A n.ty.args.length c, .int .i64 n.f0, .int .i64 n.f1, .int .i64 n.f2, .int .i64 n.f3, .int .i64 n.e, .int .i64 n.l, .int .i64 n.lt, .bool n.acc] 83)).alloc (.cells #[.int .i64 n.op, .slice IA n.ins.length ic, .slice SA n.side.length sc, .string ⟨n.text.toArray⟩, .int .i64 n.ty.kind, .slice A n.ty.args.length c, .int .i64 n.f0, .int .i64 n.f1, .int .i64 n.f2, .int .i64 n.f3, .int .i64 n.e, .int .i64 n.l, .int .i64 n.lt, .bool n.acc] 83)) := bl_al (bl_al (Below.refl _ _) _) _
  refine ⟨v7, rfl, hown7, ⟨hg7.os.trans hba.os, hg7.tape.trans hba.tape, hg7.output.trans hba.output, Nat.le_trans hba.size hg7.size, fun i hi hne => (hg7.block i (Nat.lt_of_lt_of_le hi hba.size) hne).trans (hba.block i hi)⟩, ?_⟩
  rcases hat7 with h | h
  · exact Or.inl h
  · exact Or.inr ⟨_, h, hba.size⟩
set_option maxRecDepth 100000 in
theorem add_many (w : World) (Av : Option Addr) (k cv : Nat) (n : Gn) (IA SA A : Option Addr) (ic sc c : Nat) (hk : 33 ≤ k) :
    Calls Tryz.prog 49 #[.slice Av k cv, .agg #[.int .i64 n.op, .slice IA n.ins.length ic, .slice SA n.side.length sc, .string ⟨n.text.toArray⟩, .int .i64 n.ty.kind, .slice A n.ty.args.length c, .int .i64 n.f0, .int .i64 n.f1, .int .i64 n.f2, .int .i64 n.f3, .int .i64 n.e, .int .i64 n.l, .int .i64 n.lt, .bool n.acc]] w fun e w' => e = .returned (.slice Av k cv) ∧ Below w.heap.size w w' := by
  have hnb : ((32 : Int) < (k : Int)) := by omega
  go_enter Tryz.func49, Tryz.ntmps49
  go_wp2_with (fail)
  go_ret
  exact ⟨rfl, bl_al (Below.refl _ _) _⟩
end Go.Proofs.YtllnamhgnbdkmaaGreatDoor
namespace Go.Proofs.YtllnamhgnbdkmaaGreatDoor
open Go.RowKit Go.Shelf
def rdLines (q : List UInt8 → Option (List Int)) : Nat → List UInt8 → Nat × Option (List Gn)
  | 0, _ => (0, some [])
  | f + 1, rest => if rest = [] then (0, some []) else match lineR q (Lib.cut rest [10]).1, (Lib.cut rest [10]).2.2 with
    | some n, true => (match rdLines q f (Lib.cut rest [10]).2.1 with
      | (k, some l) => (k + 1, some (n :: l))
      | (k, none) => (k + 1, none))
    | _, _ => (0, none)
def parseP (q : List UInt8 → Option (List Int)) (s : List UInt8) : Nat × Int × List Gn := match rdLines q s.length s with
  | (k, none) => (k, 40, [])
  | (_, some l) => if (chkAll (l.take 33)).2 = 0 then (0, 0, l.take 33) else ((chkAll (l.take 33)).1, (chkAll (l.take 33)).2, [])
def NsO (w : World) (B d : Nat) (v : Value) (l : List Gn) : Prop := ∃ xs, w.ownsRow B 83 14 v l.length xs ∧ ∀ (j : Nat) (n : Gn), l[j]? = some n → ∃ IA SA A ic sc c, GnAt w (fun b => B ≤ b ∧ some b ≠ v.ownBlock) d (n.val IA SA A ic sc c) n ∧ ∀ (i : Nat) (u : Value), (n.val IA SA A ic sc c).cells[i]? = some u → xs[j * 14 + i]? = some u
theorem NsO.nil (w : World) (B d : Nat) : NsO w B d (.slice none 0 0) [] := ⟨[], World.ownsRow_nil _ _ _ _, fun j n h => by cases h⟩
theorem NsO.gs {w : World} {B d : Nat} {v : Value} {l : List Gn} (h : NsO w B d v l) : GsAt w (fun b => B ≤ b) d v l := by
  obtain ⟨xs, ho, hn⟩ := h
  have ho2 := ho
  rcases ho2.2 with ⟨rfl, h0⟩ | ⟨g, cap, cur, rfl, hb, hg, hle, hc⟩
  · exact ⟨none, 0, by rw [h0], by omega, fun h1 => by omega⟩
  · refine ⟨some ⟨g, 0, none⟩, cap, rfl, hle, fun _ => ⟨g, 0, rfl, hb, cell_lt hg, fun j n hj => ?_⟩⟩
    obtain ⟨IA, SA, A, ic, sc, c, hgn, hu⟩ := hn j n hj
    refine ⟨IA, SA, A, ic, sc, c, hgn.move fun b hb hl => ⟨hb.1, hl, fun _ => rfl⟩, fun i u hx => ?_⟩
    have h1 := hu i u hx
    have hlt := (List.getElem?_eq_some_iff.1 h1).1
    have h2 := ho.cellAt (j * 14 + i) (by rw [← ho.1]; exact hlt)
    rw [show 0 + j * 14 + i = j * 14 + i by omega, h2, h1]
theorem NsO.keep {w w' : World} {B d : Nat} {v : Value} {l : List Gn} (h : NsO w B d v l) (hb : Below w.heap.size w w') : NsO w' B d v l := by
  obtain ⟨xs, ho, hn⟩ := h
  refine ⟨xs, ho.kept (row := none) ⟨hb.os, hb.tape, hb.output, hb.size, fun i hi _ => hb.block i hi⟩ (by cases v.ownBlock <;> simp), fun j n hj => ?_⟩
  obtain ⟨IA, SA, A, ic, sc, c, hgn, hu⟩ := hn j n hj
  exact ⟨IA, SA, A, ic, sc, c, hgn.below hb, hu⟩
theorem NsO.low {w : World} {B d : Nat} {v : Value} {l : List Gn} (h : NsO w B d v l) {g : Nat} (hg : v.ownBlock = some g) : B ≤ g ∧ g < w.heap.size := by
  obtain ⟨xs, ho, hn⟩ := h
  rcases ho.2 with ⟨rfl, h0⟩ | ⟨g', cap, cur, rfl, hb, hg', hle, hc⟩
  · cases hg
  · cases hg
    exact ⟨hb, cell_lt hg'⟩
theorem Gn.cells14 (n : Gn) (IA SA A : Option Addr) (ic sc c : Nat) : (n.val IA SA A ic sc c).cells.toList = [.int .i64 n.op, .slice IA n.ins.length ic, .slice SA n.side.length sc, .string ⟨n.text.toArray⟩, .int .i64 n.ty.kind, .slice A n.ty.args.length c, .int .i64 n.f0, .int .i64 n.f1, .int .i64 n.f2, .int .i64 n.f3, .int .i64 n.e, .int .i64 n.l, .int .i64 n.lt, .bool n.acc] := rfl
theorem NsO.more {w w' : World} {B d : Nat} {v v' : Value} {l : List Gn} {n : Gn} {IA SA A : Option Addr} {ic sc c : Nat} {xs : List Value} (ho : w.ownsRow B 83 14 v l.length xs) (hn : ∀ (j : Nat) (n : Gn), l[j]? = some n → ∃ IA SA A ic sc c, GnAt w (fun b => B ≤ b ∧ some b ≠ v.ownBlock) d (n.val IA SA A ic sc c) n ∧ ∀ (i : Nat) (u : Value), (n.val IA SA A ic sc c).cells[i]? = some u → xs[j * 14 + i]? = some u) (hgn : GnAt w (fun b => B ≤ b ∧ some b ≠ v.ownBlock) d (n.val IA SA A ic sc c) n)
    (ho' : w'.ownsRow B 83 14 v' (l.length + 1) (xs ++ [.int .i64 n.op, .slice IA n.ins.length ic, .slice SA n.side.length sc, .string ⟨n.text.toArray⟩, .int .i64 n.ty.kind, .slice A n.ty.args.length c, .int .i64 n.f0, .int .i64 n.f1, .int .i64 n.f2, .int .i64 n.f3, .int .i64 n.e, .int .i64 n.l, .int .i64 n.lt, .bool n.acc])) (hg : w.grownBy w' v.ownBlock) (hat : v'.ownBlock = v.ownBlock ∨ ∃ g, v'.ownBlock = some g ∧ w.heap.size ≤ g) : NsO w' B d v' (l ++ [n]) := by
  have hmv : ∀ b, (B ≤ b ∧ some b ≠ v.ownBlock) → b < w.heap.size → (B ≤ b ∧ some b ≠ v'.ownBlock) ∧ b < w'.heap.size ∧ ∀ o, w'.cell? ⟨b, o, none⟩ = w.cell? ⟨b, o, none⟩ := fun b hb hl => by
    refine ⟨⟨hb.1, ?_⟩, Nat.lt_of_lt_of_le hl hg.size, fun o => World.cell?_of_block (hg.block b hl hb.2)⟩
    rcases hat with h | ⟨g, h, hgl⟩
    · rw [h]; exact hb.2
    · rw [h]
      intro e
      have := Option.some.inj e
      omega
  refine ⟨_, by rw [List.length_append]; exact ho', fun j m hj => ?_⟩
  have hxl := ho.1
  rcases Nat.lt_or_ge j l.length with hlt | hge
  · rw [List.getElem?_append_left hlt] at hj
    obtain ⟨IA, SA, A, ic, sc, c, hgn, hu⟩ := hn j m hj
    refine ⟨IA, SA, A, ic, sc, c, hgn.move hmv, fun i u hx => ?_⟩
    have h1 := hu i u hx
    rw [List.getElem?_append_left (List.getElem?_eq_some_iff.1 h1).1]
    exact h1
  · rw [List.getElem?_append_right hge] at hj
    obtain rfl : j = l.length := by have := (List.getElem?_eq_some_iff.1 hj).1; simp at this; omega
    rw [Nat.sub_self] at hj
    obtain rfl : n = m := Option.some.inj hj
    refine ⟨IA, SA, A, ic, sc, c, hgn.move hmv, fun i u hx => ?_⟩
    rw [List.getElem?_append_right (by omega), hxl, Nat.add_sub_cancel_left, ← Gn.cells14 n IA SA A ic sc c]
    simpa using hx
theorem add_any (w : World) (B d : Nat) (v : Value) (l : List Gn) (n : Gn) (IA SA A : Option Addr) (ic sc c : Nat) (hv : NsO w B d v l) (hk : l.length ≤ 32) (hB : B ≤ w.heap.size) (hgn : GnAt w (fun b => B ≤ b ∧ some b ≠ v.ownBlock) d (n.val IA SA A ic sc c) n) :
    Calls Tryz.prog 49 #[v, .agg #[.int .i64 n.op, .slice IA n.ins.length ic, .slice SA n.side.length sc, .string ⟨n.text.toArray⟩, .int .i64 n.ty.kind, .slice A n.ty.args.length c, .int .i64 n.f0, .int .i64 n.f1, .int .i64 n.f2, .int .i64 n.f3, .int .i64 n.e, .int .i64 n.l, .int .i64 n.lt, .bool n.acc]] w fun e w' => ∃ v', e = .returned v' ∧ NsO w' B d v' (l ++ [n]) ∧ Below B w w' := by
  have hlow := fun g => hv.low (g := g)
  obtain ⟨xs, ho, hn⟩ := hv
  refine (add_few w B v l.length xs n IA SA A ic sc c ho hk hB).mono ?_
  rintro e w' ⟨v', rfl, ho', hg, hat⟩
  exact ⟨v', rfl, NsO.more ho hn hgn ho' hg hat, ⟨hg.os, hg.tape, hg.output, hg.size, fun k hk => hg.block k (Nat.lt_of_lt_of_le hk hB) (fun e => by have := (hlow k e.symm).1; omega)⟩⟩
end Go.Proofs.YtllnamhgnbdkmaaGreatDoor
