/-
Stage 11: the document's Read: lines that are none; source, sink, flatten.
-/
import Derived.Test.YtllnamhgnbdkmaaGreatDoorGe
import Derived.Test.YtllnamhgnbdkmaaGreatDoorKh
import Derived.Test.YtllnamhgnbdkmaaGreatDoorRb
set_option linter.unusedVariables false
set_option linter.unusedSimpArgs false
namespace Go.Proofs.YtllnamhgnbdkmaaGreatDoor
open Go.RowKit Go.Shelf Go.Sort
structure RdC (s word rest : List UInt8) (ok : Bool) : Prop where
  cut : ∀ w : World, Calls Tryz.prog 58 #[.string ⟨s.toArray⟩, .int .u8 32] w fun e w' => e = .returned (.tuple #[.string ⟨word.toArray⟩, .string ⟨rest.toArray⟩, .bool ok]) ∧ ∃ m, w' = w.drewN m
  len : rest.length ≤ 900000
structure RdW (w W : World) : Prop where
  hb : Below w.heap.size w W
  hx : W.heap[w.heap.size]? = some (.cells #[.int .i64 0, .slice none 0 0, .slice none 0 0, .string ⟨#[]⟩, .int .i64 0, .slice none 0 0, .int .i64 0, .int .i64 0, .int .i64 0, .int .i64 0, .int .i64 0, .int .i64 0, .int .i64 0, .bool false] 51 (0, 0))
theorem RdW.start (w : World) : RdW w (w.alloc (.cells #[.int .i64 0, .slice none 0 0, .slice none 0 0, .string ⟨#[]⟩, .int .i64 0, .slice none 0 0, .int .i64 0, .int .i64 0, .int .i64 0, .int .i64 0, .int .i64 0, .int .i64 0, .int .i64 0, .bool false] 51)) := ⟨bl_al (Below.refl _ _) _, heap_alloc_new w _⟩
theorem RdW.on {w W W' : World} (h : RdW w W) (hb : Below W.heap.size W W') : RdW w W' := ⟨h.hb.trans (hb.mono h.hb.size), bl_blk hb h.hx⟩
theorem RdW.dr {w W : World} (h : RdW w W) (n : Nat) : RdW w (W.drewN n) := h.on (bl_drn (Below.refl _ _) n)
theorem RdW.al {w W : World} (h : RdW w W) (o : Obj) : RdW w (W.alloc o) := h.on (bl_al (Below.refl _ _) o)
theorem RdW.lt {w W : World} (h : RdW w W) : w.heap.size < W.heap.size := cell_lt h.hx
theorem results_rd {fn : Func} {tm : Array Value} {W : World} {b : Nat} {u a0 a1 a2 a3 a4 a5 a6 a7 a8 a9 a10 a11 a12 a13 : Value} (hf : fn.results = #[.cell 2 51, .tmp 3]) (ht : tm[2]? = some (.pointer (some ⟨b, 0, none⟩))) (hu : tm[3]? = some u) (hx : W.heap[b]? = some (.cells #[a0, a1, a2, a3, a4, a5, a6, a7, a8, a9, a10, a11, a12, a13] 51 (0, 0))) :
    Sem.run Tryz.prog (results fn tm) W = .ok (.tuple #[.agg #[a0, a1, a2, a3, a4, a5, a6, a7, a8, a9, a10, a11, a12, a13], u]) W := by
  have s0 := cellN (i := 0) (x := a0) hx rfl
  have s1 := cellN (i := 1) (x := a1) hx rfl
  have s2 := cellN (i := 2) (x := a2) hx rfl
  have s3 := cellN (i := 3) (x := a3) hx rfl
  have s4 := cellN (i := 4) (x := a4) hx rfl
  have s5 := cellN (i := 5) (x := a5) hx rfl
  have s6 := cellN (i := 6) (x := a6) hx rfl
  have s7 := cellN (i := 7) (x := a7) hx rfl
  have s8 := cellN (i := 8) (x := a8) hx rfl
  have s9 := cellN (i := 9) (x := a9) hx rfl
  have s10 := cellN (i := 10) (x := a10) hx rfl
  have s11 := cellN (i := 11) (x := a11) hx rfl
  have s12 := cellN (i := 12) (x := a12) hx rfl
  have s13 := cellN (i := 13) (x := a13) hx rfl
  simp [results, hf, go_sem, ht, hu, s0, s1, s2, s3, s4, s5, s6, s7, s8, s9, s10, s11, s12, s13]
theorem results_rd_drew {fn : Func} {tm : Array Value} {W : World} {b : Nat} {u a0 a1 a2 a3 a4 a5 a6 a7 a8 a9 a10 a11 a12 a13 : Value} (hf : fn.results = #[.cell 2 51, .tmp 3]) (ht : tm[2]? = some (.pointer (some ⟨b, 0, none⟩))) (hu : tm[3]? = some u) (hx : W.heap[b]? = some (.cells #[a0, a1, a2, a3, a4, a5, a6, a7, a8, a9, a10, a11, a12, a13] 51 (0, 0))) :
    Sem.run Tryz.prog (results fn tm) W.drew = .ok (.tuple #[.agg #[a0, a1, a2, a3, a4, a5, a6, a7, a8, a9, a10, a11, a12, a13], u]) W.drew := results_rd hf ht hu hx
theorem rd_end {w W : World} (h : RdW w W) {v : Value} {n : Gn} {a0 a1 a2 a3 a4 a5 a6 a7 a8 a9 a10 a11 a12 a13 : Value} (hg : GnAt W (fun b => w.heap.size + 1 ≤ b) 6 v n) : GnAt ((((((((((((((W.setCell ⟨w.heap.size, 0, none⟩ a0).setCell ⟨w.heap.size, 1, none⟩ a1).setCell ⟨w.heap.size, 2, none⟩ a2).setCell ⟨w.heap.size, 3, none⟩ a3).setCell ⟨w.heap.size, 4, none⟩ a4).setCell ⟨w.heap.size, 5, none⟩ a5).setCell ⟨w.heap.size, 6, none⟩ a6).setCell ⟨w.heap.size, 7, none⟩ a7).setCell ⟨w.heap.size, 8, none⟩ a8).setCell ⟨w.heap.size, 9, none⟩ a9).setCell ⟨w.heap.size, 10, none⟩ a10).setCell ⟨w.heap.size, 11, none⟩ a11).setCell ⟨w.heap.size, 12, none⟩ a12).setCell ⟨w.heap.size, 13, none⟩ a13) (fun b => w.heap.size ≤ b) 6 v n ∧ Below w.heap.size w ((((((((((((((W.setCell ⟨w.heap.size, 0, none⟩ a0).setCell ⟨w.heap.size, 1, none⟩ a1).setCell ⟨w.heap.size, 2, none⟩ a2).setCell ⟨w.heap.size, 3, none⟩ a3).setCell ⟨w.heap.size, 4, none⟩ a4).setCell ⟨w.heap.size, 5, none⟩ a5).setCell ⟨w.heap.size, 6, none⟩ a6).setCell ⟨w.heap.size, 7, none⟩ a7).setCell ⟨w.heap.size, 8, none⟩ a8).setCell ⟨w.heap.size, 9, none⟩ a9).setCell ⟨w.heap.size, 10, none⟩ a10).setCell ⟨w.heap.size, 11, none⟩ a11).setCell ⟨w.heap.size, 12, none⟩ a12).setCell ⟨w.heap.size, 13, none⟩ a13) :=
  ⟨hg.move fun b hb hl => ⟨by have : w.heap.size + 1 ≤ b := hb; omega, by simpa [World.setCell] using hl, fun o => World.cell?_of_block (a := ⟨b, o, none⟩) (node_told_far (b := b) (by have : w.heap.size + 1 ≤ b := hb; omega))⟩, node_told_bl h.hb (Nat.le_refl _)⟩
theorem gz_at (W : World) (S : Nat → Prop) (k : Int) : GnAt W S 6 ((gz k).val none none none 0 0 0) (gz k) := ⟨none, none, none, 0, 0, 0, rfl, IntsAt.nil _ _, IntsAt.nil _ _, tyZ_at _ _⟩
set_option maxRecDepth 100000 in
set_option maxHeartbeats 4000000 in
theorem rread_blank (s word rest : List UInt8) (w : World) (o : Option Gn) (h : RdC s word rest false) (ho : o = none) :
    Calls Tryz.prog 38 #[.string ⟨s.toArray⟩] w fun e w' => LineOut w w' e o := by
  have HE := Lib.hid ho
  have HCUT := Lib.hid h.cut
  go_enter Tryz.func38, Tryz.ntmps38
  go_wp2_with (first
    | (go_at_call 58; (with_reducible refine (HCUT.out _).mono ?_); rintro e w1 ⟨rfl, nd, rfl⟩; have HW := Lib.hid ((RdW.start w).dr nd))
    | fail)
  refine bodyPost_ret (v := .tuple #[.agg #[.int .i64 0, .slice none 0 0, .slice none 0 0, .string ⟨#[]⟩, .int .i64 0, .slice none 0 0, .int .i64 0, .int .i64 0, .int .i64 0, .int .i64 0, .int .i64 0, .int .i64 0, .int .i64 0, .bool false], .bool false]) (results_rd Tryz.results38 rfl rfl (node_told HW.out.hx)) rfl ?_
  refine ⟨⟨gz 0, none, none, none, 0, 0, 0, by rw [HE.out]; rfl, (fun v hv => by rw [HE.out] at hv; cases hv), ?_⟩, node_told_bl HW.out.hb (Nat.le_refl _)⟩
  exact (rd_end HW.out (gz_at _ _ 0)).1
set_option maxRecDepth 100000 in
set_option maxHeartbeats 4000000 in
theorem rread_none (s word rest : List UInt8) (w : World) (o : Option Gn) (h : RdC s word rest true) (h1 : (word == [115, 111, 117, 114, 99, 101]) = false) (h2 : (word == [101, 97, 99, 104]) = false) (h3 : (word == [119, 105, 110, 100, 111, 119]) = false) (h4 : (word == [103, 114, 111, 117, 112]) = false) (h5 : (word == [102, 108, 97, 116, 116, 101, 110]) = false) (h6 : (word == [115, 105, 110, 107]) = false) (ho : o = none) :
    Calls Tryz.prog 38 #[.string ⟨s.toArray⟩] w fun e w' => LineOut w w' e o := by
  have HE := Lib.hid ho
  have HONE := Lib.hid fun W => rone_any rest W (Nat.le_trans h.len (by decide))
  cases hg : goodN (Lib.cut rest [32]).1 999 with
  | none =>
    rw [hg] at HONE
    clear hg
    have HCUT := Lib.hid h.cut
    go_enter Tryz.func38, Tryz.ntmps38
    go_wp2_with (first
      | (go_at_call 58; (with_reducible refine (HCUT.out _).mono ?_); rintro e w1 ⟨rfl, nd, rfl⟩; have HW := Lib.hid ((RdW.start w).dr nd))
      | (go_at_call 64; (with_reducible refine (HONE.out _).mono ?_); rintro e w2 ⟨he, hb2⟩; obtain rfl : e = _ := he; have HW := Lib.hid (HW.out.on hb2); have hx2 := HW.out.hx; have e2 := HW.out.lt; have c0 := cellN (i := 0) hx2 rfl; have d0 := frozN (i := 0) hx2; have c1 := cellN (i := 1) hx2 rfl; have d1 := frozN (i := 1) hx2; have c2 := cellN (i := 2) hx2 rfl; have d2 := frozN (i := 2) hx2; have c3 := cellN (i := 3) hx2 rfl; have d3 := frozN (i := 3) hx2; have c4 := cellN (i := 4) hx2 rfl; have d4 := frozN (i := 4) hx2; have c5 := cellN (i := 5) hx2 rfl; have d5 := frozN (i := 5) hx2; have c6 := cellN (i := 6) hx2 rfl; have d6 := frozN (i := 6) hx2; have c7 := cellN (i := 7) hx2 rfl; have d7 := frozN (i := 7) hx2; have c8 := cellN (i := 8) hx2 rfl; have d8 := frozN (i := 8) hx2; have c9 := cellN (i := 9) hx2 rfl; have d9 := frozN (i := 9) hx2; have c10 := cellN (i := 10) hx2 rfl; have d10 := frozN (i := 10) hx2; have c11 := cellN (i := 11) hx2 rfl; have d11 := frozN (i := 11) hx2; have c12 := cellN (i := 12) hx2 rfl; have d12 := frozN (i := 12) hx2; have c13 := cellN (i := 13) hx2 rfl; have d13 := frozN (i := 13) hx2; clear hx2; clear hb2)
      | fail)
    refine bodyPost_ret (v := .tuple #[.agg #[.int .i64 0, .slice none 0 0, .slice none 0 0, .string ⟨#[]⟩, .int .i64 0, .slice none 0 0, .int .i64 0, .int .i64 0, .int .i64 0, .int .i64 0, .int .i64 0, .int .i64 0, .int .i64 0, .bool false], .bool false]) (results_rd Tryz.results38 rfl rfl (node_told HW.out.hx)) rfl ?_
    refine ⟨⟨gz 0, none, none, none, 0, 0, 0, by rw [HE.out]; rfl, (fun v hv => by rw [HE.out] at hv; cases hv), ?_⟩, node_told_bl HW.out.hb (Nat.le_refl _)⟩
    exact (rd_end HW.out (gz_at _ _ 0)).1
  | some pv =>
    rw [hg] at HONE
    clear hg
    unfold OneOut at HONE
    generalize (Lib.cut rest [32]).2.2 = ok1 at *
    generalize (Lib.cut rest [32]).2.1 = r1 at *
    cases ok1 with
    | false =>
      have HCUT := Lib.hid h.cut
      go_enter Tryz.func38, Tryz.ntmps38
      go_wp2_with (first
        | (go_at_call 58; (with_reducible refine (HCUT.out _).mono ?_); rintro e w1 ⟨rfl, nd, rfl⟩; have HW := Lib.hid ((RdW.start w).dr nd))
        | (go_at_call 64; (with_reducible refine (HONE.out _).mono ?_); rintro e w2 ⟨⟨A, c, he, hia⟩, hb2⟩; obtain rfl : e = _ := he; have HW := Lib.hid (HW.out.on hb2); have hx2 := HW.out.hx; have e2 := HW.out.lt; have c0 := cellN (i := 0) hx2 rfl; have d0 := frozN (i := 0) hx2; have c1 := cellN (i := 1) hx2 rfl; have d1 := frozN (i := 1) hx2; have c2 := cellN (i := 2) hx2 rfl; have d2 := frozN (i := 2) hx2; have c3 := cellN (i := 3) hx2 rfl; have d3 := frozN (i := 3) hx2; have c4 := cellN (i := 4) hx2 rfl; have d4 := frozN (i := 4) hx2; have c5 := cellN (i := 5) hx2 rfl; have d5 := frozN (i := 5) hx2; have c6 := cellN (i := 6) hx2 rfl; have d6 := frozN (i := 6) hx2; have c7 := cellN (i := 7) hx2 rfl; have d7 := frozN (i := 7) hx2; have c8 := cellN (i := 8) hx2 rfl; have d8 := frozN (i := 8) hx2; have c9 := cellN (i := 9) hx2 rfl; have d9 := frozN (i := 9) hx2; have c10 := cellN (i := 10) hx2 rfl; have d10 := frozN (i := 10) hx2; have c11 := cellN (i := 11) hx2 rfl; have d11 := frozN (i := 11) hx2; have c12 := cellN (i := 12) hx2 rfl; have d12 := frozN (i := 12) hx2; have c13 := cellN (i := 13) hx2 rfl; have d13 := frozN (i := 13) hx2; clear hx2; clear hb2 hia)
        | fail)
      refine bodyPost_ret (v := .tuple #[.agg #[.int .i64 0, .slice none 0 0, .slice none 0 0, .string ⟨#[]⟩, .int .i64 0, .slice none 0 0, .int .i64 0, .int .i64 0, .int .i64 0, .int .i64 0, .int .i64 0, .int .i64 0, .int .i64 0, .bool false], .bool false]) (results_rd Tryz.results38 rfl rfl (node_told HW.out.hx)) rfl ?_
      refine ⟨⟨gz 0, none, none, none, 0, 0, 0, by rw [HE.out]; rfl, (fun v hv => by rw [HE.out] at hv; cases hv), ?_⟩, node_told_bl HW.out.hb (Nat.le_refl _)⟩
      exact (rd_end HW.out (gz_at _ _ 0)).1
    | true =>
      have HCUT := Lib.hid h.cut
      go_enter Tryz.func38, Tryz.ntmps38
      go_wp2_with (first
        | (go_at_call 58; (with_reducible refine (HCUT.out _).mono ?_); rintro e w1 ⟨rfl, nd, rfl⟩; have HW := Lib.hid ((RdW.start w).dr nd))
        | (go_at_call 64; (with_reducible refine (HONE.out _).mono ?_); rintro e w2 ⟨⟨A, c, he, hia⟩, hb2⟩; obtain rfl : e = _ := he; have HW := Lib.hid (HW.out.on hb2); have hx2 := HW.out.hx; have e2 := HW.out.lt; have c0 := cellN (i := 0) hx2 rfl; have d0 := frozN (i := 0) hx2; have c1 := cellN (i := 1) hx2 rfl; have d1 := frozN (i := 1) hx2; have c2 := cellN (i := 2) hx2 rfl; have d2 := frozN (i := 2) hx2; have c3 := cellN (i := 3) hx2 rfl; have d3 := frozN (i := 3) hx2; have c4 := cellN (i := 4) hx2 rfl; have d4 := frozN (i := 4) hx2; have c5 := cellN (i := 5) hx2 rfl; have d5 := frozN (i := 5) hx2; have c6 := cellN (i := 6) hx2 rfl; have d6 := frozN (i := 6) hx2; have c7 := cellN (i := 7) hx2 rfl; have d7 := frozN (i := 7) hx2; have c8 := cellN (i := 8) hx2 rfl; have d8 := frozN (i := 8) hx2; have c9 := cellN (i := 9) hx2 rfl; have d9 := frozN (i := 9) hx2; have c10 := cellN (i := 10) hx2 rfl; have d10 := frozN (i := 10) hx2; have c11 := cellN (i := 11) hx2 rfl; have d11 := frozN (i := 11) hx2; have c12 := cellN (i := 12) hx2 rfl; have d12 := frozN (i := 12) hx2; have c13 := cellN (i := 13) hx2 rfl; have d13 := frozN (i := 13) hx2; clear hx2; clear hb2 hia)
        | fail)
      refine bodyPost_ret (v := .tuple #[.agg #[.int .i64 0, .slice none 0 0, .slice none 0 0, .string ⟨#[]⟩, .int .i64 0, .slice none 0 0, .int .i64 0, .int .i64 0, .int .i64 0, .int .i64 0, .int .i64 0, .int .i64 0, .int .i64 0, .bool false], .bool false]) (results_rd Tryz.results38 rfl rfl (node_told HW.out.hx)) rfl ?_
      refine ⟨⟨gz 0, none, none, none, 0, 0, 0, by rw [HE.out]; rfl, (fun v hv => by rw [HE.out] at hv; cases hv), ?_⟩, node_told_bl HW.out.hb (Nat.le_refl _)⟩
      exact (rd_end HW.out (gz_at _ _ 0)).1
end Go.Proofs.YtllnamhgnbdkmaaGreatDoor
set_option linter.unusedVariables false
set_option linter.unusedSimpArgs false
namespace Go.Proofs.YtllnamhgnbdkmaaGreatDoor
open Go.RowKit Go.Shelf Go.Sort
theorem rparse_l (l : List UInt8) (w : World) (hs : l.length ≤ 1000000) :
    Calls Tryz.prog 61 #[.string ⟨l.toArray⟩] w fun e w' => Knd.RpOut w w' e (Knd.parseT l) ∧ Below w.heap.size w w' := by
  have := Knd.rparse_any ⟨l.toArray⟩ w (by simpa [ByteArray.size] using hs)
  simpa using this
theorem up1 {w W : World} (h : RdW w W) {b : Nat} (hb : W.heap.size ≤ b) : w.heap.size + 1 ≤ b := by have := h.lt; omega
set_option maxRecDepth 100000 in
set_option maxHeartbeats 4000000 in
theorem rread_source (s rest : List UInt8) (w : World) (h : RdC s [115, 111, 117, 114, 99, 101] rest true) :
    Calls Tryz.prog 38 #[.string ⟨s.toArray⟩] w fun e w' => LineOut w w' e (node1 rest) := by
  have HCUT := Lib.hid h.cut
  have HP := Lib.hid fun W => rparse_l rest W (Nat.le_trans h.len (by decide))
  obtain ⟨k, o, hq⟩ : ∃ k o, Knd.parseT rest = (k, o) := ⟨_, _, rfl⟩
  rw [hq] at HP
  cases o with
  | none =>
    have HE : Hid (node1 rest = none) := Lib.hid (by unfold node1; rw [hq])
    clear hq
    go_enter Tryz.func38, Tryz.ntmps38
    go_wp2_with (first
      | (go_at_call 58; (with_reducible refine (HCUT.out _).mono ?_); rintro e w1 ⟨rfl, nd, rfl⟩; have HW := Lib.hid ((RdW.start w).dr nd))
      | (go_at_call 61; (with_reducible refine (HP.out _).mono ?_); rintro e w2 ⟨he, hb2⟩; obtain rfl : e = _ := he; have HW := Lib.hid (HW.out.on hb2); have hx2 := HW.out.hx; have e2 := HW.out.lt; have c0 := cellN (i := 0) hx2 rfl; have d0 := frozN (i := 0) hx2; have c1 := cellN (i := 1) hx2 rfl; have d1 := frozN (i := 1) hx2; have c2 := cellN (i := 2) hx2 rfl; have d2 := frozN (i := 2) hx2; have c3 := cellN (i := 3) hx2 rfl; have d3 := frozN (i := 3) hx2; have c4 := cellN (i := 4) hx2 rfl; have d4 := frozN (i := 4) hx2; have c5 := cellN (i := 5) hx2 rfl; have d5 := frozN (i := 5) hx2; have c6 := cellN (i := 6) hx2 rfl; have d6 := frozN (i := 6) hx2; have c7 := cellN (i := 7) hx2 rfl; have d7 := frozN (i := 7) hx2; have c8 := cellN (i := 8) hx2 rfl; have d8 := frozN (i := 8) hx2; have c9 := cellN (i := 9) hx2 rfl; have d9 := frozN (i := 9) hx2; have c10 := cellN (i := 10) hx2 rfl; have d10 := frozN (i := 10) hx2; have c11 := cellN (i := 11) hx2 rfl; have d11 := frozN (i := 11) hx2; have c12 := cellN (i := 12) hx2 rfl; have d12 := frozN (i := 12) hx2; have c13 := cellN (i := 13) hx2 rfl; have d13 := frozN (i := 13) hx2; clear hx2; clear hb2)
      | fail)
    refine bodyPost_ret (v := .tuple #[.agg #[.int .i64 1, .slice none 0 0, .slice none 0 0, .string ⟨#[]⟩, .int .i64 0, .slice none 0 0, .int .i64 0, .int .i64 0, .int .i64 0, .int .i64 0, .int .i64 0, .int .i64 0, .int .i64 0, .bool false], .bool false]) (results_rd Tryz.results38 rfl rfl (alloc_old (node_told HW.out.hx))) rfl ?_
    refine ⟨⟨gz 1, none, none, none, 0, 0, 0, by rw [HE.out]; rfl, (fun v hv => by rw [HE.out] at hv; cases hv), ?_⟩, bl_al (node_told_bl HW.out.hb (Nat.le_refl _)) _⟩
    exact (rd_end HW.out (gz_at _ _ 1)).1.below (bl_al (Below.refl _ _) _)
  | some t =>
    have HE : Hid (node1 rest = some { gz 1 with ty := t }) := Lib.hid (by unfold node1; rw [hq])
    clear hq
    go_enter Tryz.func38, Tryz.ntmps38
    go_wp2_with (first
      | (go_at_call 58; (with_reducible refine (HCUT.out _).mono ?_); rintro e w1 ⟨rfl, nd, rfl⟩; have HW := Lib.hid ((RdW.start w).dr nd))
      | (go_at_call 61; (with_reducible refine (HP.out _).mono ?_); rintro e w2 ⟨⟨v, he, hT⟩, hb2⟩; obtain rfl : e = _ := he; have HT := Lib.hid hT; obtain ⟨TA, tc, rfl, _, _⟩ := hT; have HU := Lib.hid (fun b => up1 HW.out (b := b)); have HW := Lib.hid (HW.out.on hb2); have hx2 := HW.out.hx; have e2 := HW.out.lt; have c0 := cellN (i := 0) hx2 rfl; have d0 := frozN (i := 0) hx2; have c1 := cellN (i := 1) hx2 rfl; have d1 := frozN (i := 1) hx2; have c2 := cellN (i := 2) hx2 rfl; have d2 := frozN (i := 2) hx2; have c3 := cellN (i := 3) hx2 rfl; have d3 := frozN (i := 3) hx2; have c4 := cellN (i := 4) hx2 rfl; have d4 := frozN (i := 4) hx2; have c5 := cellN (i := 5) hx2 rfl; have d5 := frozN (i := 5) hx2; have c6 := cellN (i := 6) hx2 rfl; have d6 := frozN (i := 6) hx2; have c7 := cellN (i := 7) hx2 rfl; have d7 := frozN (i := 7) hx2; have c8 := cellN (i := 8) hx2 rfl; have d8 := frozN (i := 8) hx2; have c9 := cellN (i := 9) hx2 rfl; have d9 := frozN (i := 9) hx2; have c10 := cellN (i := 10) hx2 rfl; have d10 := frozN (i := 10) hx2; have c11 := cellN (i := 11) hx2 rfl; have d11 := frozN (i := 11) hx2; have c12 := cellN (i := 12) hx2 rfl; have d12 := frozN (i := 12) hx2; have c13 := cellN (i := 13) hx2 rfl; have d13 := frozN (i := 13) hx2; clear hx2; clear hb2)
      | fail)
    refine bodyPost_ret (v := .tuple #[.agg #[.int .i64 1, .slice none 0 0, .slice none 0 0, .string ⟨#[]⟩, .int .i64 t.kind, .slice TA t.args.length tc, .int .i64 0, .int .i64 0, .int .i64 0, .int .i64 0, .int .i64 0, .int .i64 0, .int .i64 0, .bool false], .bool true]) (results_rd Tryz.results38 rfl rfl (alloc_old (node_told HW.out.hx))) rfl ?_
    refine ⟨⟨{ gz 1 with ty := t }, none, none, TA, 0, 0, tc, by rw [HE.out]; rfl, (fun v hv => by rw [HE.out] at hv; exact Option.some.inj hv), ?_⟩, bl_al (node_told_bl HW.out.hb (Nat.le_refl _)) _⟩
    exact (rd_end HW.out (⟨none, none, TA, 0, 0, tc, rfl, IntsAt.nil _ _, IntsAt.nil _ _, TyAt.move (fun b hb hl => ⟨HU.out b hb, fun o => rfl⟩) _ _ _ HT.out⟩)).1.below (bl_al (Below.refl _ _) _)
theorem node6_nums (rest : List UInt8) : node6 rest = (numsP 999 32 rest).bind fun l => if l.length = 1 then some { gz 6 with ins := l } else none := by
  unfold node6
  cases hn : numsP 999 32 rest with
  | none =>
    cases hg : goodN rest 999 with
    | none => rfl
    | some v => have := (numsP_single km3 not_dig32).1 hg; rw [hn] at this; cases this
  | some l =>
    rw [Option.bind_some]
    by_cases h1 : l.length = 1
    · obtain ⟨v, rfl⟩ := List.length_eq_one_iff.1 h1
      rw [(numsP_single km3 not_dig32).2 hn]
      rfl
    · rw [if_neg h1]
      cases hg : goodN rest 999 with
      | none => rfl
      | some v => have := (numsP_single km3 not_dig32).1 hg; rw [hn] at this; cases this; exact absurd rfl h1
theorem node5_nums (rest : List UInt8) : node5 placesP rest = (numsP 999 44 rest).bind fun l => if l.length ≤ 4 ∧ risG l = true then some { gz 5 with ins := l } else none := by
  unfold node5
  rw [placesP_nums]
  cases numsP 999 44 rest with
  | none => rfl
  | some l =>
    rw [Option.bind_some, Option.bind_some]
    by_cases h : l.length ≤ 4 ∧ risG l = true
    · rw [if_pos h, if_pos h]
    · rw [if_neg h, if_neg h]
set_option maxRecDepth 100000 in
set_option maxHeartbeats 4000000 in
theorem rread_sink (s rest : List UInt8) (w : World) (h : RdC s [115, 105, 110, 107] rest true) :
    Calls Tryz.prog 38 #[.string ⟨s.toArray⟩] w fun e w' => LineOut w w' e (node6 rest) := by
  have HCUT := Lib.hid h.cut
  have HNU : Hid (∀ W, Calls Tryz.prog 62 #[.string ⟨rest.toArray⟩, .int .u8 32, .int .i64 3] W fun e w' => NumsOut W w' e (numsP 999 32 rest) ∧ Below W.heap.size W w') := Lib.hid fun W => rnums_any 3 999 km3 rest 32 W (Nat.le_trans h.len (by decide))
  have HN6 := node6_nums rest
  generalize numsP 999 32 rest = o at *
  cases o with
  | none =>
    have HE : Hid (node6 rest = none) := Lib.hid HN6
    clear HN6
    go_enter Tryz.func38, Tryz.ntmps38
    go_wp2_with (first
      | (go_at_call 58; (with_reducible refine (HCUT.out _).mono ?_); rintro e w1 ⟨rfl, nd, rfl⟩; have HW := Lib.hid ((RdW.start w).dr nd))
      | (go_at_call 62; (with_reducible refine (HNU.out _).mono ?_); rintro e w2 ⟨he, hb2⟩; obtain rfl : e = _ := he; have HW := Lib.hid (HW.out.on hb2); have hx2 := HW.out.hx; have e2 := HW.out.lt; have c0 := cellN (i := 0) hx2 rfl; have d0 := frozN (i := 0) hx2; have c1 := cellN (i := 1) hx2 rfl; have d1 := frozN (i := 1) hx2; have c2 := cellN (i := 2) hx2 rfl; have d2 := frozN (i := 2) hx2; have c3 := cellN (i := 3) hx2 rfl; have d3 := frozN (i := 3) hx2; have c4 := cellN (i := 4) hx2 rfl; have d4 := frozN (i := 4) hx2; have c5 := cellN (i := 5) hx2 rfl; have d5 := frozN (i := 5) hx2; have c6 := cellN (i := 6) hx2 rfl; have d6 := frozN (i := 6) hx2; have c7 := cellN (i := 7) hx2 rfl; have d7 := frozN (i := 7) hx2; have c8 := cellN (i := 8) hx2 rfl; have d8 := frozN (i := 8) hx2; have c9 := cellN (i := 9) hx2 rfl; have d9 := frozN (i := 9) hx2; have c10 := cellN (i := 10) hx2 rfl; have d10 := frozN (i := 10) hx2; have c11 := cellN (i := 11) hx2 rfl; have d11 := frozN (i := 11) hx2; have c12 := cellN (i := 12) hx2 rfl; have d12 := frozN (i := 12) hx2; have c13 := cellN (i := 13) hx2 rfl; have d13 := frozN (i := 13) hx2; clear hx2; clear hb2)
      | fail)
    refine bodyPost_ret (v := .tuple #[.agg #[.int .i64 6, .slice none 0 0, .slice none 0 0, .string ⟨#[]⟩, .int .i64 0, .slice none 0 0, .int .i64 0, .int .i64 0, .int .i64 0, .int .i64 0, .int .i64 0, .int .i64 0, .int .i64 0, .bool false], .bool false]) (results_rd Tryz.results38 rfl rfl (node_told HW.out.hx)) rfl ?_
    refine ⟨⟨gz 6, none, none, none, 0, 0, 0, by rw [HE.out]; rfl, (fun v hv => by rw [HE.out] at hv; cases hv), ?_⟩, node_told_bl HW.out.hb (Nat.le_refl _)⟩
    exact (rd_end HW.out (gz_at _ _ 6)).1
  | some l =>
    rw [Option.bind_some] at HN6
    by_cases h1 : l.length = 1
    · have HE : Hid (node6 rest = some { gz 6 with ins := l }) := Lib.hid (by rw [HN6, if_pos h1])
      have hl1 : ((l.length : Int) == 1) = true := by rw [h1]; rfl
      clear HN6 h1
      go_enter Tryz.func38, Tryz.ntmps38
      go_wp2_with (first
        | (go_at_call 58; (with_reducible refine (HCUT.out _).mono ?_); rintro e w1 ⟨rfl, nd, rfl⟩; have HW := Lib.hid ((RdW.start w).dr nd))
        | (go_at_call 62; (with_reducible refine (HNU.out _).mono ?_); rintro e w2 ⟨⟨IA, ic, he, hia⟩, hb2⟩; obtain rfl : e = _ := he; have HIA := Lib.hid hia; have HI := Lib.hid (hia.move fun b hb hl => ⟨up1 HW.out hb, hl, fun o => rfl⟩); have HW := Lib.hid (HW.out.on hb2); have hx2 := HW.out.hx; have e2 := HW.out.lt; have c0 := cellN (i := 0) hx2 rfl; have d0 := frozN (i := 0) hx2; have c1 := cellN (i := 1) hx2 rfl; have d1 := frozN (i := 1) hx2; have c2 := cellN (i := 2) hx2 rfl; have d2 := frozN (i := 2) hx2; have c3 := cellN (i := 3) hx2 rfl; have d3 := frozN (i := 3) hx2; have c4 := cellN (i := 4) hx2 rfl; have d4 := frozN (i := 4) hx2; have c5 := cellN (i := 5) hx2 rfl; have d5 := frozN (i := 5) hx2; have c6 := cellN (i := 6) hx2 rfl; have d6 := frozN (i := 6) hx2; have c7 := cellN (i := 7) hx2 rfl; have d7 := frozN (i := 7) hx2; have c8 := cellN (i := 8) hx2 rfl; have d8 := frozN (i := 8) hx2; have c9 := cellN (i := 9) hx2 rfl; have d9 := frozN (i := 9) hx2; have c10 := cellN (i := 10) hx2 rfl; have d10 := frozN (i := 10) hx2; have c11 := cellN (i := 11) hx2 rfl; have d11 := frozN (i := 11) hx2; have c12 := cellN (i := 12) hx2 rfl; have d12 := frozN (i := 12) hx2; have c13 := cellN (i := 13) hx2 rfl; have d13 := frozN (i := 13) hx2; clear hx2; clear hb2 hia)
        | fail)
      refine bodyPost_ret (v := .tuple #[.agg #[.int .i64 6, .slice IA l.length ic, .slice none 0 0, .string ⟨#[]⟩, .int .i64 0, .slice none 0 0, .int .i64 0, .int .i64 0, .int .i64 0, .int .i64 0, .int .i64 0, .int .i64 0, .int .i64 0, .bool false], .bool true]) (results_rd Tryz.results38 rfl rfl (node_told HW.out.hx)) rfl ?_
      refine ⟨⟨{ gz 6 with ins := l }, IA, none, none, ic, 0, 0, by rw [HE.out]; rfl, (fun v hv => by rw [HE.out] at hv; exact Option.some.inj hv), ?_⟩, node_told_bl HW.out.hb (Nat.le_refl _)⟩
      exact (rd_end HW.out (⟨IA, none, none, ic, 0, 0, rfl, HI.out, IntsAt.nil _ _, tyZ_at _ _⟩)).1
    · have HE : Hid (node6 rest = none) := Lib.hid (by rw [HN6, if_neg h1])
      have hl1 : ((l.length : Int) == 1) = false := by simpa using (fun e : (l.length : Int) = 1 => h1 (by omega))
      clear HN6 h1
      go_enter Tryz.func38, Tryz.ntmps38
      go_wp2_with (first
        | (go_at_call 58; (with_reducible refine (HCUT.out _).mono ?_); rintro e w1 ⟨rfl, nd, rfl⟩; have HW := Lib.hid ((RdW.start w).dr nd))
        | (go_at_call 62; (with_reducible refine (HNU.out _).mono ?_); rintro e w2 ⟨⟨IA, ic, he, hia⟩, hb2⟩; obtain rfl : e = _ := he; have HIA := Lib.hid hia; have HI := Lib.hid (hia.move fun b hb hl => ⟨up1 HW.out hb, hl, fun o => rfl⟩); have HW := Lib.hid (HW.out.on hb2); have hx2 := HW.out.hx; have e2 := HW.out.lt; have c0 := cellN (i := 0) hx2 rfl; have d0 := frozN (i := 0) hx2; have c1 := cellN (i := 1) hx2 rfl; have d1 := frozN (i := 1) hx2; have c2 := cellN (i := 2) hx2 rfl; have d2 := frozN (i := 2) hx2; have c3 := cellN (i := 3) hx2 rfl; have d3 := frozN (i := 3) hx2; have c4 := cellN (i := 4) hx2 rfl; have d4 := frozN (i := 4) hx2; have c5 := cellN (i := 5) hx2 rfl; have d5 := frozN (i := 5) hx2; have c6 := cellN (i := 6) hx2 rfl; have d6 := frozN (i := 6) hx2; have c7 := cellN (i := 7) hx2 rfl; have d7 := frozN (i := 7) hx2; have c8 := cellN (i := 8) hx2 rfl; have d8 := frozN (i := 8) hx2; have c9 := cellN (i := 9) hx2 rfl; have d9 := frozN (i := 9) hx2; have c10 := cellN (i := 10) hx2 rfl; have d10 := frozN (i := 10) hx2; have c11 := cellN (i := 11) hx2 rfl; have d11 := frozN (i := 11) hx2; have c12 := cellN (i := 12) hx2 rfl; have d12 := frozN (i := 12) hx2; have c13 := cellN (i := 13) hx2 rfl; have d13 := frozN (i := 13) hx2; clear hx2; clear hb2 hia)
        | fail)
      refine bodyPost_ret (v := .tuple #[.agg #[.int .i64 6, .slice IA l.length ic, .slice none 0 0, .string ⟨#[]⟩, .int .i64 0, .slice none 0 0, .int .i64 0, .int .i64 0, .int .i64 0, .int .i64 0, .int .i64 0, .int .i64 0, .int .i64 0, .bool false], .bool false]) (results_rd Tryz.results38 rfl rfl (node_told HW.out.hx)) rfl ?_
      refine ⟨⟨{ gz 6 with ins := l }, IA, none, none, ic, 0, 0, by rw [HE.out]; rfl, (fun v hv => by rw [HE.out] at hv; cases hv), ?_⟩, node_told_bl HW.out.hb (Nat.le_refl _)⟩
      exact (rd_end HW.out (⟨IA, none, none, ic, 0, 0, rfl, HI.out, IntsAt.nil _ _, tyZ_at _ _⟩)).1
set_option maxRecDepth 100000 in
set_option maxHeartbeats 4000000 in
theorem rread_flatten (s rest : List UInt8) (w : World) (h : RdC s [102, 108, 97, 116, 116, 101, 110] rest true) :
    Calls Tryz.prog 38 #[.string ⟨s.toArray⟩] w fun e w' => LineOut w w' e (node5 placesP rest) := by
  have HCUT := Lib.hid h.cut
  have hrl := h.len
  have HNU : Hid (∀ W, Calls Tryz.prog 62 #[.string ⟨rest.toArray⟩, .int .u8 44, .int .i64 3] W fun e w' => NumsOut W w' e (numsP 999 44 rest) ∧ Below W.heap.size W w') := Lib.hid fun W => rnums_any 3 999 km3 rest 44 W (Nat.le_trans h.len (by decide))
  have HN5 := node5_nums rest
  have HLN : ∀ l, numsP 999 44 rest = some l → 1 ≤ l.length ∧ l.length ≤ 900001 := fun l hl => by have := numsP_len (Nat.le_refl _) hl; omega
  generalize numsP 999 44 rest = o at *
  cases o with
  | none =>
    have HE : Hid (node5 placesP rest = none) := Lib.hid HN5
    clear HN5 HLN hrl
    go_enter Tryz.func38, Tryz.ntmps38
    go_wp2_with (first
      | (go_at_call 58; (with_reducible refine (HCUT.out _).mono ?_); rintro e w1 ⟨rfl, nd, rfl⟩; have HW := Lib.hid ((RdW.start w).dr nd))
      | (go_at_call 62; (with_reducible refine (HNU.out _).mono ?_); rintro e w2 ⟨he, hb2⟩; obtain rfl : e = _ := he; have HW := Lib.hid (HW.out.on hb2); have hx2 := HW.out.hx; have e2 := HW.out.lt; have c0 := cellN (i := 0) hx2 rfl; have d0 := frozN (i := 0) hx2; have c1 := cellN (i := 1) hx2 rfl; have d1 := frozN (i := 1) hx2; have c2 := cellN (i := 2) hx2 rfl; have d2 := frozN (i := 2) hx2; have c3 := cellN (i := 3) hx2 rfl; have d3 := frozN (i := 3) hx2; have c4 := cellN (i := 4) hx2 rfl; have d4 := frozN (i := 4) hx2; have c5 := cellN (i := 5) hx2 rfl; have d5 := frozN (i := 5) hx2; have c6 := cellN (i := 6) hx2 rfl; have d6 := frozN (i := 6) hx2; have c7 := cellN (i := 7) hx2 rfl; have d7 := frozN (i := 7) hx2; have c8 := cellN (i := 8) hx2 rfl; have d8 := frozN (i := 8) hx2; have c9 := cellN (i := 9) hx2 rfl; have d9 := frozN (i := 9) hx2; have c10 := cellN (i := 10) hx2 rfl; have d10 := frozN (i := 10) hx2; have c11 := cellN (i := 11) hx2 rfl; have d11 := frozN (i := 11) hx2; have c12 := cellN (i := 12) hx2 rfl; have d12 := frozN (i := 12) hx2; have c13 := cellN (i := 13) hx2 rfl; have d13 := frozN (i := 13) hx2; clear hx2; clear hb2)
      | fail)
    refine bodyPost_ret (v := .tuple #[.agg #[.int .i64 5, .slice none 0 0, .slice none 0 0, .string ⟨#[]⟩, .int .i64 0, .slice none 0 0, .int .i64 0, .int .i64 0, .int .i64 0, .int .i64 0, .int .i64 0, .int .i64 0, .int .i64 0, .bool false], .bool false]) (results_rd Tryz.results38 rfl rfl (node_told HW.out.hx)) rfl ?_
    refine ⟨⟨gz 5, none, none, none, 0, 0, 0, by rw [HE.out]; rfl, (fun v hv => by rw [HE.out] at hv; cases hv), ?_⟩, node_told_bl HW.out.hb (Nat.le_refl _)⟩
    exact (rd_end HW.out (gz_at _ _ 5)).1
  | some l =>
    rw [Option.bind_some] at HN5
    have hln := HLN l rfl
    by_cases h1 : l.length ≤ 4 ∧ risG l = true
    · have HE : Hid (node5 placesP rest = some { gz 5 with ins := l }) := Lib.hid (by rw [HN5, if_pos h1])
      have HR : Hid ((risG l && decide ((1 : Int) ≤ l.length ∧ (l.length : Int) ≤ 4)) = true) := Lib.hid (by rw [h1.2, Bool.true_and]; exact decide_eq_true (by omega))
      clear HN5 h1 HLN
      go_enter Tryz.func38, Tryz.ntmps38
      go_wp2_with (first
        | (go_at_call 58; (with_reducible refine (HCUT.out _).mono ?_); rintro e w1 ⟨rfl, nd, rfl⟩; have HW := Lib.hid ((RdW.start w).dr nd))
        | (go_at_call 62; (with_reducible refine (HNU.out _).mono ?_); rintro e w2 ⟨⟨IA, ic, he, hia⟩, hb2⟩; obtain rfl : e = _ := he; have HIA := Lib.hid hia; have HI := Lib.hid (hia.move fun b hb hl => ⟨up1 HW.out hb, hl, fun o => rfl⟩); have HW := Lib.hid (HW.out.on hb2); have hx2 := HW.out.hx; have e2 := HW.out.lt; have c0 := cellN (i := 0) hx2 rfl; have d0 := frozN (i := 0) hx2; have c1 := cellN (i := 1) hx2 rfl; have d1 := frozN (i := 1) hx2; have c2 := cellN (i := 2) hx2 rfl; have d2 := frozN (i := 2) hx2; have c3 := cellN (i := 3) hx2 rfl; have d3 := frozN (i := 3) hx2; have c4 := cellN (i := 4) hx2 rfl; have d4 := frozN (i := 4) hx2; have c5 := cellN (i := 5) hx2 rfl; have d5 := frozN (i := 5) hx2; have c6 := cellN (i := 6) hx2 rfl; have d6 := frozN (i := 6) hx2; have c7 := cellN (i := 7) hx2 rfl; have d7 := frozN (i := 7) hx2; have c8 := cellN (i := 8) hx2 rfl; have d8 := frozN (i := 8) hx2; have c9 := cellN (i := 9) hx2 rfl; have d9 := frozN (i := 9) hx2; have c10 := cellN (i := 10) hx2 rfl; have d10 := frozN (i := 10) hx2; have c11 := cellN (i := 11) hx2 rfl; have d11 := frozN (i := 11) hx2; have c12 := cellN (i := 12) hx2 rfl; have d12 := frozN (i := 12) hx2; have c13 := cellN (i := 13) hx2 rfl; have d13 := frozN (i := 13) hx2; clear hx2; clear hb2 hia)
        | (go_at_call 63; (with_reducible refine (rrises_any _ _ _ l 1 4 HIA.out (by omega)).mono ?_); rintro e w3 ⟨he, q, rfl⟩; obtain rfl : e = .returned (.bool true) := he.trans (by rw [HR.out]); have HI := Lib.hid (HI.out.below (bl_drn (Below.refl _ _) q)); have HW := Lib.hid (HW.out.dr q))
        | fail)
      refine bodyPost_ret (v := .tuple #[.agg #[.int .i64 5, .slice IA l.length ic, .slice none 0 0, .string ⟨#[]⟩, .int .i64 0, .slice none 0 0, .int .i64 0, .int .i64 0, .int .i64 0, .int .i64 0, .int .i64 0, .int .i64 0, .int .i64 0, .bool false], .bool true]) (results_rd Tryz.results38 rfl rfl (node_told HW.out.hx)) rfl ?_
      refine ⟨⟨{ gz 5 with ins := l }, IA, none, none, ic, 0, 0, by rw [HE.out]; rfl, (fun v hv => by rw [HE.out] at hv; exact Option.some.inj hv), ?_⟩, node_told_bl HW.out.hb (Nat.le_refl _)⟩
      exact (rd_end HW.out (⟨IA, none, none, ic, 0, 0, rfl, HI.out, IntsAt.nil _ _, tyZ_at _ _⟩)).1
    · have HE : Hid (node5 placesP rest = none) := Lib.hid (by rw [HN5, if_neg h1])
      have HR : Hid ((risG l && decide ((1 : Int) ≤ l.length ∧ (l.length : Int) ≤ 4)) = false) := Lib.hid (by
        cases hr : risG l with
        | false => rfl
        | true => rw [Bool.true_and]; exact decide_eq_false (fun h => h1 ⟨by omega, hr⟩))
      clear HN5 h1 HLN
      go_enter Tryz.func38, Tryz.ntmps38
      go_wp2_with (first
        | (go_at_call 58; (with_reducible refine (HCUT.out _).mono ?_); rintro e w1 ⟨rfl, nd, rfl⟩; have HW := Lib.hid ((RdW.start w).dr nd))
        | (go_at_call 62; (with_reducible refine (HNU.out _).mono ?_); rintro e w2 ⟨⟨IA, ic, he, hia⟩, hb2⟩; obtain rfl : e = _ := he; have HIA := Lib.hid hia; have HI := Lib.hid (hia.move fun b hb hl => ⟨up1 HW.out hb, hl, fun o => rfl⟩); have HW := Lib.hid (HW.out.on hb2); have hx2 := HW.out.hx; have e2 := HW.out.lt; have c0 := cellN (i := 0) hx2 rfl; have d0 := frozN (i := 0) hx2; have c1 := cellN (i := 1) hx2 rfl; have d1 := frozN (i := 1) hx2; have c2 := cellN (i := 2) hx2 rfl; have d2 := frozN (i := 2) hx2; have c3 := cellN (i := 3) hx2 rfl; have d3 := frozN (i := 3) hx2; have c4 := cellN (i := 4) hx2 rfl; have d4 := frozN (i := 4) hx2; have c5 := cellN (i := 5) hx2 rfl; have d5 := frozN (i := 5) hx2; have c6 := cellN (i := 6) hx2 rfl; have d6 := frozN (i := 6) hx2; have c7 := cellN (i := 7) hx2 rfl; have d7 := frozN (i := 7) hx2; have c8 := cellN (i := 8) hx2 rfl; have d8 := frozN (i := 8) hx2; have c9 := cellN (i := 9) hx2 rfl; have d9 := frozN (i := 9) hx2; have c10 := cellN (i := 10) hx2 rfl; have d10 := frozN (i := 10) hx2; have c11 := cellN (i := 11) hx2 rfl; have d11 := frozN (i := 11) hx2; have c12 := cellN (i := 12) hx2 rfl; have d12 := frozN (i := 12) hx2; have c13 := cellN (i := 13) hx2 rfl; have d13 := frozN (i := 13) hx2; clear hx2; clear hb2 hia)
        | (go_at_call 63; (with_reducible refine (rrises_any _ _ _ l 1 4 HIA.out (by omega)).mono ?_); rintro e w3 ⟨he, q, rfl⟩; obtain rfl : e = .returned (.bool false) := he.trans (by rw [HR.out]); have HI := Lib.hid (HI.out.below (bl_drn (Below.refl _ _) q)); have HW := Lib.hid (HW.out.dr q))
        | fail)
      refine bodyPost_ret (v := .tuple #[.agg #[.int .i64 5, .slice IA l.length ic, .slice none 0 0, .string ⟨#[]⟩, .int .i64 0, .slice none 0 0, .int .i64 0, .int .i64 0, .int .i64 0, .int .i64 0, .int .i64 0, .int .i64 0, .int .i64 0, .bool false], .bool false]) (results_rd Tryz.results38 rfl rfl (node_told HW.out.hx)) rfl ?_
      refine ⟨⟨{ gz 5 with ins := l }, IA, none, none, ic, 0, 0, by rw [HE.out]; rfl, (fun v hv => by rw [HE.out] at hv; cases hv), ?_⟩, node_told_bl HW.out.hb (Nat.le_refl _)⟩
      exact (rd_end HW.out (⟨IA, none, none, ic, 0, 0, rfl, HI.out, IntsAt.nil _ _, tyZ_at _ _⟩)).1
end Go.Proofs.YtllnamhgnbdkmaaGreatDoor
