import Derived.Test.YtaecndmncpfpfaaGreatDoorCu
set_option linter.unusedVariables false
set_option linter.unusedSimpArgs false
namespace Go.Proofs.YtaecndmncpfpfaaGreatDoor
open Go.RowKit
def infR (ck : Bool) (it : Ty) (sides : List Ty) (x : Except (Int × List Int) Ty) : Except (Int × List Int) Ty :=
 if ck = true then (if rightE it sides = true then x else .error (20, [])) else .error (110, [])
def InfOut (w w' : World) (e : Ending) : Except (Int × List Int) Ty → Prop
 | .error (no, qs) => no ≠ 0 ∧ ∃ av, e = .returned (.tuple #[.agg #[.int .i64 0, .slice none 0 0], av, .int .i64 no]) ∧ w'.ownsRow w.heap.size 3 1 av qs.length (qs.map fun p => .int .i64 p)
 | .ok t => ∃ v, e = .returned (.tuple #[v, .slice none 0 0, .int .i64 0]) ∧ TyAt w' (fun b => w.heap.size ≤ b) 6 v t
theorem ty_eta (t : Ty) : Ty.mk t.kind t.args = t := by cases t; rfl
theorem rightE_spec {it : Ty} {sides : List Ty} (h : rightE it sides = true) : RT it ∧ ∀ t ∈ sides, RT t := by
 unfold rightE at h
 simp only [Bool.and_eq_true, Bool.not_eq_true', decide_eq_false_iff_not, decide_eq_true_eq] at h
 obtain ⟨h1, _, h3⟩ := h
 refine ⟨h1, ?_⟩
 have aux : ∀ (l : List Ty) (j : Nat), ¬ (0 ≤ ixW j l) → ∀ t ∈ l, RT t := fun l => by
  induction l with
  | nil => intro j _ t ht; cases ht
  | cons a l ih =>
    intro j hj t ht
    unfold ixW at hj
    split at hj
    · rename_i ha
      rcases List.mem_cons.1 ht with rfl | ht
      · exact ha
      · exact ih _ hj t ht
    · exact absurd (by omega) hj
 exact aux sides 0 h3
set_option maxRecDepth 100000 in
set_option maxHeartbeats 4000000 in
theorem Infer_any (FT : Nd → List (List Ty)) (FO : Nd → Prop) (HF : FormsC FT FO) (r : Nat) (hr : r ≤ 100) (n : Nd) (S PE : Nat → Prop) (dn d : Nat) (nv : Value) (it : Ty) (sides : List Ty) (A' SA : Option Addr) (k' sk : Nat) (ck : Bool) (w : World) (hn : NdAt w S dn nv n) (hS : ∀ k, S k → k < w.heap.size) (hPE : ∀ k, PE k → k < w.heap.size)
    (hT : TyAt w PE d (.agg #[.int .i64 it.kind, .slice A' it.args.length k']) it) (hA : Knd.yE w PE d SA sides) (hG : Knd.Glob w) (hOk : ck = true → InfOk FO r n)
    (HCK : ∀ w1, Below w.heap.size w w1 → Calls Tryz.prog 27 #[nv] w1 fun e w' => e = .returned (.int .i64 (bif ck then 0 else 110)) ∧ Below w1.heap.size w1 w') :
    Calls Tryz.prog 11 #[nv, .agg #[.int .i64 it.kind, .slice A' it.args.length k', .slice SA sides.length sk]] w fun e w' => InfOut w w' e (infR ck it sides (zM FT it sides r [] [] n)) ∧ Below w.heap.size w w' := by
 obtain ⟨A, c, K, k, rfl⟩ := hn.form
 have hGl := hG.lt
 obtain ⟨w1, hw1⟩ : ∃ w1, ((w.alloc (.cells #[.string ⟨n.op.toArray⟩, .int .i64 n.int, .string ⟨n.text.toArray⟩, .int .i64 n.ty.kind, .slice A n.ty.args.length c, .slice K n.kids.length k] 41)).alloc (.cells #[.int .i64 it.kind, .slice A' it.args.length k', .slice SA sides.length sk] 44)).alloc (.cells #[.int .i64 0, .slice none 0 0] 34) = w1 := ⟨_, rfl⟩
 have hb1 : Below w.heap.size w w1 := by
  rw [← hw1]
  exact (((Below.refl w.heap.size w).alloc (Nat.le_refl _) _).alloc (by simp) _).alloc (by simp; omega) _
 have hs1 : w1.heap.size = w.heap.size + 3 := by rw [← hw1]; simp
 have h10 : w1.heap[w.heap.size]? = some (.cells #[.string ⟨n.op.toArray⟩, .int .i64 n.int, .string ⟨n.text.toArray⟩, .int .i64 n.ty.kind, .slice A n.ty.args.length c, .slice K n.kids.length k] 41 (0, 0)) := by
  rw [← hw1]
  exact (Below.heap_alloc _ _ _ (by simp; omega)).trans ((Below.heap_alloc _ _ _ (by simp)).trans (heap_alloc_new w _))
 have h11 : w1.heap[w.heap.size + 1]? = some (.cells #[.int .i64 it.kind, .slice A' it.args.length k', .slice SA sides.length sk] 44 (0, 0)) := by
  rw [← hw1]
  exact (Below.heap_alloc _ _ _ (by simp)).trans (by simpa using heap_alloc_new (w.alloc (.cells #[.string ⟨n.op.toArray⟩, .int .i64 n.int, .string ⟨n.text.toArray⟩, .int .i64 n.ty.kind, .slice A n.ty.args.length c, .slice K n.kids.length k] 41)) (.cells #[.int .i64 it.kind, .slice A' it.args.length k', .slice SA sides.length sk] 44))
 have h12 : w1.heap[w.heap.size + 2]? = some (.cells #[.int .i64 0, .slice none 0 0] 34 (0, 0)) := by
  have h := heap_alloc_new ((w.alloc (.cells #[.string ⟨n.op.toArray⟩, .int .i64 n.int, .string ⟨n.text.toArray⟩, .int .i64 n.ty.kind, .slice A n.ty.args.length c, .slice K n.kids.length k] 41)).alloc (.cells #[.int .i64 it.kind, .slice A' it.args.length k', .slice SA sides.length sk] 44)) (.cells #[.int .i64 0, .slice none 0 0] 34)
  rw [hw1] at h
  simpa using h
 have HC1 := Lib.hid (HCK w1 hb1)
 have HB1 := Lib.hid hb1
 have H10 := Lib.hid h10
 have H11 := Lib.hid h11
 have H12 := Lib.hid h12
 have HN := Lib.hid hn
 have HS := Lib.hid hS
 have HPE := Lib.hid hPE
 have HT := Lib.hid hT
 have HA := Lib.hid hA
 have HG := Lib.hid hG
 have HOK := Lib.hid hOk
 have n0 : w1.cell? ⟨w.heap.size, 0, none⟩ = some (.string ⟨n.op.toArray⟩) := zD (i := 0) h10 rfl
 have n1 : w1.cell? ⟨w.heap.size, 1, none⟩ = some (.int .i64 n.int) := zD (i := 1) h10 rfl
 have n2 : w1.cell? ⟨w.heap.size, 2, none⟩ = some (.string ⟨n.text.toArray⟩) := zD (i := 2) h10 rfl
 have n3 : w1.cell? ⟨w.heap.size, 3, none⟩ = some (.int .i64 n.ty.kind) := zD (i := 3) h10 rfl
 have n4 : w1.cell? ⟨w.heap.size, 4, none⟩ = some (.slice A n.ty.args.length c) := zD (i := 4) h10 rfl
 have n5 : w1.cell? ⟨w.heap.size, 5, none⟩ = some (.slice K n.kids.length k) := zD (i := 5) h10 rfl
 clear hb1 h10 h11 h12 hn hS hPE hT hA hG hOk HCK
 go_enter Tryz.func11, Tryz.ntmps11
 go_wp2_with (fail)
 refine HC1.out.mono ?_
 rintro e w2 ⟨rfl, hb2⟩
 have hs2 := hb2.size
 have HB2 := Lib.hid (HB1.out.trans (hb2.mono (by omega)))
 have h22 := (hb2.block (w.heap.size + 2) (by omega)).trans H12.out
 have h21 := (hb2.block (w.heap.size + 1) (by omega)).trans H11.out
 have h20 := (hb2.block w.heap.size (by omega)).trans H10.out
 have x0 := zD (i := 0) h22 rfl
 have x1 := zD (i := 1) h22 rfl
 have xf0 := zI (i := 0) h22
 have xf1 := zI (i := 1) h22
 have e0 : w2.cell? ⟨w.heap.size + 1, 0, none⟩ = some (.int .i64 it.kind) := zD (i := 0) h21 rfl
 have e1 : w2.cell? ⟨w.heap.size + 1, 1, none⟩ = some (.slice A' it.args.length k') := zD (i := 1) h21 rfl
 have e2 : w2.cell? ⟨w.heap.size + 1, 2, none⟩ = some (.slice SA sides.length sk) := zD (i := 2) h21 rfl
 have H20 := Lib.hid h20
 have H21 := Lib.hid h21
 have H22 := Lib.hid h22
 clear hb2 h22 h21 h20 n0 n1 n2 n3 n4 n5
 cases ck with
 | false =>
   go_wp2_with (fail)
   refine bodyPost_ret (v := .tuple #[.agg #[.int .i64 0, .slice none 0 0], .slice none 0 0, .int .i64 110]) (by simp [results, Tryz.results11, go_sem, x0, x1]) rfl ?_
   exact ⟨⟨by decide, .slice none 0 0, rfl, World.ownsRow_nil _ _ _ _⟩, (HB2.out.setCell (p := ⟨w.heap.size + 2, 0, none⟩) (by simp) _).setCell (p := ⟨w.heap.size + 2, 1, none⟩) (by simp) _⟩
 | true =>
   have HRE := Lib.hid (isRight_any d PE A' SA k' sk it sides w2 (HT.out.below HB2.out) (args_mv HA.out (fun k hk => ⟨hk, HB2.out.block k (HPE.out k hk)⟩)) (fun k hk => by have := HPE.out k hk; omega) (HG.out.kept (HB2.out.block _ hGl)))
   go_wp2_with (fail)
   refine HRE.out.mono ?_
   rintro e w3 ⟨rfl, hb3⟩
   have hs3 := hb3.size
   have HB3 := Lib.hid (HB2.out.trans (hb3.mono (by omega)))
   have h32 := (hb3.block (w.heap.size + 2) (by omega)).trans H22.out
   have h31 := (hb3.block (w.heap.size + 1) (by omega)).trans H21.out
   have h30 := (hb3.block w.heap.size (by omega)).trans H20.out
   clear x0 x1 xf0 xf1 e0 e1 e2
   have x0 := zD (i := 0) h32 rfl
   have x1 := zD (i := 1) h32 rfl
   have xf0 := zI (i := 0) h32
   have xf1 := zI (i := 1) h32
   have e0 : w3.cell? ⟨w.heap.size + 1, 0, none⟩ = some (.int .i64 it.kind) := zD (i := 0) h31 rfl
   have e1 : w3.cell? ⟨w.heap.size + 1, 1, none⟩ = some (.slice A' it.args.length k') := zD (i := 1) h31 rfl
   have e2 : w3.cell? ⟨w.heap.size + 1, 2, none⟩ = some (.slice SA sides.length sk) := zD (i := 2) h31 rfl
   have H30 := Lib.hid h30
   have H32 := Lib.hid h32
   clear hb3 h32 h31 h30 HRE
   cases hre : rightE it sides with
   | false =>
     have HE : Hid (infR true it sides (zM FT it sides r [] [] n) = .error (20, [])) := Lib.hid (by unfold infR; rw [if_pos rfl, hre]; rfl)
     clear hre
     go_wp2_with (fail)
     refine bodyPost_ret (v := .tuple #[.agg #[.int .i64 0, .slice none 0 0], .slice none 0 0, .int .i64 20]) (by simp [results, Tryz.results11, go_sem, x0, x1]) rfl ?_
     rw [HE.out]
     exact ⟨⟨by decide, .slice none 0 0, rfl, World.ownsRow_nil _ _ _ _⟩, (HB3.out.setCell (p := ⟨w.heap.size + 2, 0, none⟩) (by simp) _).setCell (p := ⟨w.heap.size + 2, 1, none⟩) (by simp) _⟩
   | true =>
     have HE : Hid (infR true it sides (zM FT it sides r [] [] n) = zM FT it sides r [] [] n) := Lib.hid (by unfold infR; rw [if_pos rfl, if_pos hre])
     have HRS := Lib.hid (rightE_spec hre)
     clear hre
     go_upto_region 6 with (fail)
     have h4n := heap_alloc_new w3 (.cells #[.int .i64 it.kind, .slice A' it.args.length k', .slice SA sides.length sk, .slice none 0 0, .slice none 0 0] 79)
     have hb4 := (Below.refl w3.heap.size w3).alloc (Nat.le_refl _) (.cells #[.int .i64 it.kind, .slice A' it.args.length k', .slice SA sides.length sk, .slice none 0 0, .slice none 0 0] 79)
     have hs4 : (w3.alloc (.cells #[.int .i64 it.kind, .slice A' it.args.length k', .slice SA sides.length sk, .slice none 0 0, .slice none 0 0] 79)).heap.size = w3.heap.size + 1 := by simp
     generalize w3.alloc (.cells #[.int .i64 it.kind, .slice A' it.args.length k', .slice SA sides.length sk, .slice none 0 0, .slice none 0 0] 79) = w4 at *
     have hb04 := HB3.out.trans (hb4.mono (by omega))
     have hWI : WkI w4 w3.heap.size (fun k => S k ∨ PE k) it sides [] none 0 (.slice none 0 0) [] :=
      ⟨⟨d, ⟨⟨A', k', SA, sk, h4n, (HT.out.below hb04).move fun b hb _ => ⟨.inr hb, fun _ => rfl⟩, args_mv HA.out (fun k hk => ⟨.inr hk, hb04.block k (HPE.out k hk)⟩)⟩, fun h => absurd h (by simp), fun k hk => by
       rcases hk with h | h
       · have := HS.out k h; omega
       · have := HPE.out k h; omega⟩⟩, fun k hk => by
       have hkl : k < w.heap.size := by
        rcases hk with h | h
        · exact HS.out k h
        · exact HPE.out k h
       exact ⟨by omega, by omega, by simp [Value.ownBlock]⟩, World.ownsRow_nil _ _ _ _, HG.out.kept (hb04.block _ hGl), by omega⟩
     have HCI := Lib.hid (infer_any FT FO it sides HRS.out.1 HRS.out.2 HF r w3.heap.size _ S [] none 0 (.slice none 0 0) [] _ n dn w4 (by simp) hWI (fun k hk => .inl hk) (by simp; omega) (fun _ => ⟨rfl, rfl⟩) (by simp; omega) (HOK.out (by first | rfl | trivial)) (HN.out.below hb04))
     have HB4 := Lib.hid hb04
     have h40 := (hb4.block w.heap.size (by omega)).trans H30.out
     have H42 := Lib.hid ((hb4.block (w.heap.size + 2) (by omega)).trans H32.out)
     have n0 : w4.cell? ⟨w.heap.size, 0, none⟩ = some (.string ⟨n.op.toArray⟩) := zD (i := 0) h40 rfl
     have n1 : w4.cell? ⟨w.heap.size, 1, none⟩ = some (.int .i64 n.int) := zD (i := 1) h40 rfl
     have n2 : w4.cell? ⟨w.heap.size, 2, none⟩ = some (.string ⟨n.text.toArray⟩) := zD (i := 2) h40 rfl
     have n3 : w4.cell? ⟨w.heap.size, 3, none⟩ = some (.int .i64 n.ty.kind) := zD (i := 3) h40 rfl
     have n4 : w4.cell? ⟨w.heap.size, 4, none⟩ = some (.slice A n.ty.args.length c) := zD (i := 4) h40 rfl
     have n5 : w4.cell? ⟨w.heap.size, 5, none⟩ = some (.slice K n.kids.length k) := zD (i := 5) h40 rfl
     clear hWI hb4 h4n h40 hb04 e0 e1 e2 x0 x1 xf0 xf1
     go_wp2_with (fail)
     refine HCI.out.mono ?_
     rintro e w5 ho
     obtain ⟨res, hres⟩ : ∃ res, res = zM FT it sides r [] [] n := ⟨_, rfl⟩
     rw [← hres] at ho
     have HRES := Lib.hid hres
     clear hres HCI n0 n1 n2 n3 n4 n5
     cases res with
     | error x =>
       obtain ⟨no, qs⟩ := x
       obtain ⟨hno, AV5, rfl, hWI, hWS⟩ := ho
       have hs5 := hWS.size
       have hr5 := (hWS.block (w.heap.size + 2) (by omega) (by omega) (by simp [Value.ownBlock])).trans H42.out
       have x0 := zD (i := 0) hr5 rfl
       have x1 := zD (i := 1) hr5 rfl
       have xf0 := zI (i := 0) hr5
       have xf1 := zI (i := 1) hr5
       obtain ⟨d0, hWA⟩ := hWI.walk
       obtain ⟨B1, j1, B2, j2, hbx, _, _⟩ := hWA.box
       have a4 : w5.cell? ⟨w3.heap.size, 4, none⟩ = some AV5 := zD (i := 4) hbx rfl
       have hno' : (no == 0) = false := by simp [hno]
       have HOW := Lib.hid hWI.own
       have HR5 := Lib.hid hr5
       have HB5 : Hid (Below w.heap.size w w5) := Lib.hid ⟨hWS.os.trans HB4.out.os, hWS.tape.trans HB4.out.tape, hWS.output.trans HB4.out.output, by omega, fun b hb => (hWS.block b (by omega) (by omega) (by simp [Value.ownBlock])).trans (HB4.out.block b hb)⟩
       have hRW : w.heap.size + 2 ≠ w3.heap.size := by omega
       have HRW := Lib.hid hRW
       clear hr5 hWA hbx hWI hWS
       have a4' : ((w5.setCell ⟨w.heap.size + 1 + 1, 0, none⟩ (.int .i64 0)).setCell ⟨w.heap.size + 1 + 1, 1, none⟩ (.slice none 0 0)).cell? ⟨w3.heap.size, 4, none⟩ = some AV5 := cell_set_some (by dsimp only; omega) (cell_set_some (by dsimp only; omega) a4)
       go_wp2_with (fail)
       have hF := Bxs.set (vs := #[.int .i64 0, .slice none 0 0]) (Bxs.set (vs := #[.int .i64 0, .slice none 0 0]) (Bxs.set (vs := #[.int .i64 0, .slice none 0 0]) (Bxs.set (vs := #[.int .i64 0, .slice none 0 0]) (show w5.heap[w.heap.size + 1 + 1]? = _ from HR5.out) 0 (.int .i64 0)) 1 (.slice none 0 0)) 0 (.int .i64 0)) 1 (.slice none 0 0)
       have q0 := zD (i := 0) hF rfl
       have q1 := zD (i := 1) hF rfl
       have q0d := zX q0
       have q1d := zX q1
       clear hF
       go_region_law (fail)
       all_goals (
        go_wp2_with (fail)
        refine bodyPost_ret (v := .tuple #[.agg #[.int .i64 0, .slice none 0 0], AV5, .int .i64 no]) (by simp [results, Tryz.results11, go_sem, q0, q1, q0d, q1d]) rfl ?_
        rw [HE.out, ← HRES.out]
        have hRB : AV5.ownBlock ≠ some (w.heap.size + 1 + 1) := fun e => by have := (HOW.out.lt _ e).1; omega
        have hOWB : w5.ownsRow w.heap.size 3 1 AV5 qs.length (qs.map fun p => .int .i64 p) := ⟨HOW.out.1, HOW.out.2.imp id fun ⟨g, cp, cur, e, hb, hr⟩ => ⟨g, cp, cur, e, by omega, hr⟩⟩
        have hOW2 := (ownsRow_setCell_other (ownsRow_setCell_other (ownsRow_setCell_other (ownsRow_setCell_other hOWB (a := ⟨w.heap.size + 1 + 1, 0, none⟩) hRB (.int .i64 0)) (a := ⟨w.heap.size + 1 + 1, 1, none⟩) hRB (.slice none 0 0)) (a := ⟨w.heap.size + 1 + 1, 0, none⟩) hRB (.int .i64 0)) (a := ⟨w.heap.size + 1 + 1, 1, none⟩) hRB (.slice none 0 0)).drew
        have hB2 := ((((HB5.out.setCell (p := ⟨w.heap.size + 1 + 1, 0, none⟩) (by dsimp only; omega) (.int .i64 0)).setCell (p := ⟨w.heap.size + 1 + 1, 1, none⟩) (by dsimp only; omega) (.slice none 0 0)).setCell (p := ⟨w.heap.size + 1 + 1, 0, none⟩) (by dsimp only; omega) (.int .i64 0)).setCell (p := ⟨w.heap.size + 1 + 1, 1, none⟩) (by dsimp only; omega) (.slice none 0 0)).drew
        exact ⟨⟨hno, AV5, rfl, hOW2⟩, hB2⟩)
     | ok t =>
       obtain ⟨AV5, v, d5, rfl, hT5, hWI, hWS⟩ := ho
       obtain ⟨A5, k5, rfl⟩ := hT5.form
       have hs5 := hWS.size
       have hr5 := (hWS.block (w.heap.size + 2) (by omega) (by omega) (by simp [Value.ownBlock])).trans H42.out
       have x0 := zD (i := 0) hr5 rfl
       have x1 := zD (i := 1) hr5 rfl
       have xf0 := zI (i := 0) hr5
       have xf1 := zI (i := 1) hr5
       have HB5 : Hid (Below w.heap.size w w5) := Lib.hid ⟨hWS.os.trans HB4.out.os, hWS.tape.trans HB4.out.tape, hWS.output.trans HB4.out.output, by omega, fun b hb => (hWS.block b (by omega) (by omega) (by simp [Value.ownBlock])).trans (HB4.out.block b hb)⟩
       have HR5 := Lib.hid hr5
       have HT5 := Lib.hid hT5
       have HG5 := Lib.hid hWI.glob
       clear hr5 hT5 hWI hWS
       have hRT := inferT_right FT it sides HRS.out.1 HRS.out.2 r [] [] n t (by simp) HRES.out.symm
       obtain ⟨dq, hdq, hA5⟩ := ty_args HT5.out
       have hle : t.args.length ≤ k5 := by
        have h := HT5.out
        rw [hdq] at h
        obtain ⟨B, j, hv, hl, _⟩ := h
        injection hv with hv
        have e := congrArg Array.toList hv
        simp only [List.cons.injEq] at e
        have e2 := e.2.1
        injection e2 with _ _ e3
        omega
       have h62 := Bxs.set (vs := #[.int .i64 t.kind, .slice none 0 0]) (Bxs.set (vs := #[.int .i64 0, .slice none 0 0]) (show w5.heap[w.heap.size + 1 + 1]? = _ from HR5.out) 0 (.int .i64 t.kind)) 1 (.slice A5 t.args.length k5)
       have hfar : ∀ b, b ≠ w.heap.size + 1 + 1 → ((w5.setCell ⟨w.heap.size + 1 + 1, 0, none⟩ (.int .i64 t.kind)).setCell ⟨w.heap.size + 1 + 1, 1, none⟩ (.slice A5 t.args.length k5)).heap[b]? = w5.heap[b]? := fun b hb => by
        rw [Below.heap_setCell _ _ _ _ (by show b ≠ w.heap.size + 1 + 1; exact hb), Below.heap_setCell _ _ _ _ (by show b ≠ w.heap.size + 1 + 1; exact hb)]
       have hsz6 : ((w5.setCell ⟨w.heap.size + 1 + 1, 0, none⟩ (.int .i64 t.kind)).setCell ⟨w.heap.size + 1 + 1, 1, none⟩ (.slice A5 t.args.length k5)).heap.size = w5.heap.size := by simp [World.setCell]
       have hB6 : Below w.heap.size w ((w5.setCell ⟨w.heap.size + 1 + 1, 0, none⟩ (.int .i64 t.kind)).setCell ⟨w.heap.size + 1 + 1, 1, none⟩ (.slice A5 t.args.length k5)) := (HB5.out.setCell (p := ⟨w.heap.size + 1 + 1, 0, none⟩) (by dsimp only; omega) _).setCell (p := ⟨w.heap.size + 1 + 1, 1, none⟩) (by dsimp only; omega) _
       go_upto_region 9 with (fail)
       generalize (w5.setCell ⟨w.heap.size + 1 + 1, 0, none⟩ (.int .i64 t.kind)).setCell ⟨w.heap.size + 1 + 1, 1, none⟩ (.slice A5 t.args.length k5) = w6 at *
       have h62 : w6.heap[w.heap.size + 1 + 1]? = some (.cells #[.int .i64 t.kind, .slice A5 t.args.length k5] 34 (0, 0)) := h62
       clear x0 x1 xf0 xf1
       have x0 := zD (i := 0) h62 rfl
       have x1 := zD (i := 1) h62 rfl
       have hMK := Knd.make_any dq (fun b => b ≠ w.heap.size + 1 + 1) t.kind A5 k5 t.args w6 (args_mv hA5 (fun k hk => by
        have hkr : k ≠ w.heap.size + 1 + 1 := by
         rcases hk with (h | h) | ⟨h1, _, _⟩
         · have := HS.out k h; omega
         · have := HPE.out k h; omega
         · omega
        exact ⟨hkr, hfar k hkr⟩)) hle (HG5.out.kept (hfar _ (by omega)))
       rw [ty_eta] at hMK
       obtain ⟨q, hq⟩ := Option.isSome_iff_exists.1 hRT
       rw [hq] at hMK
       have HMK := Lib.hid hMK
       have H62 := Lib.hid h62
       have HB6 := Lib.hid hB6
       clear hMK h62 hB6 hfar hA5 hRT hq hle hdq
       go_wp2_with (fail)
       refine HMK.out.mono ?_
       rintro e w7 ⟨⟨v, rfl, hTv⟩, hb7⟩
       obtain ⟨A9, k9, rfl⟩ := hTv.form
       have hs7 := hb7.size
       have h72 := (hb7.block (w.heap.size + 1 + 1) (by omega)).trans H62.out
       have y0 := zD (i := 0) h72 rfl
       have y1 := zD (i := 1) h72 rfl
       have yf0 := zI (i := 0) h72
       have yf1 := zI (i := 1) h72
       have HTv := Lib.hid hTv
       have HB7 := Lib.hid (HB6.out.trans (hb7.mono (by omega)))
       have H72 := Lib.hid h72
       clear hTv hb7 h72 HMK x0 x1
       go_upto_region 10 with (fail)
       have h82 := Bxs.set (vs := #[.int .i64 t.kind, .slice A5 t.args.length k5]) (Bxs.set (vs := #[.int .i64 t.kind, .slice A5 t.args.length k5]) H72.out 0 (.int .i64 t.kind)) 1 (.slice A9 t.args.length k9)
       have hfar8 : ∀ b, b ≠ w.heap.size + 1 + 1 → ((w7.setCell ⟨w.heap.size + 1 + 1, 0, none⟩ (.int .i64 t.kind)).setCell ⟨w.heap.size + 1 + 1, 1, none⟩ (.slice A9 t.args.length k9)).heap[b]? = w7.heap[b]? := fun b hb => by
        rw [Below.heap_setCell _ _ _ _ (by show b ≠ w.heap.size + 1 + 1; exact hb), Below.heap_setCell _ _ _ _ (by show b ≠ w.heap.size + 1 + 1; exact hb)]
       have hB8 : Below w.heap.size w ((w7.setCell ⟨w.heap.size + 1 + 1, 0, none⟩ (.int .i64 t.kind)).setCell ⟨w.heap.size + 1 + 1, 1, none⟩ (.slice A9 t.args.length k9)) := (HB7.out.setCell (p := ⟨w.heap.size + 1 + 1, 0, none⟩) (by dsimp only; omega) _).setCell (p := ⟨w.heap.size + 1 + 1, 1, none⟩) (by dsimp only; omega) _
       generalize (w7.setCell ⟨w.heap.size + 1 + 1, 0, none⟩ (.int .i64 t.kind)).setCell ⟨w.heap.size + 1 + 1, 1, none⟩ (.slice A9 t.args.length k9) = w8 at *
       have h82 : w8.heap[w.heap.size + 1 + 1]? = some (.cells #[.int .i64 t.kind, .slice A9 t.args.length k9] 34 (0, 0)) := h82
       clear y0 y1 yf0 yf1
       have z0 := zD (i := 0) h82 rfl
       have z1 := zD (i := 1) h82 rfl
       have zf0 := zI (i := 0) h82
       have zf1 := zI (i := 1) h82
       have HFAR8 := Lib.hid hfar8
       have HB8 := Lib.hid hB8
       clear h82 hfar8 hB8
       go_wp2_with (fail)
       refine bodyPost_ret (v := .tuple #[.agg #[.int .i64 t.kind, .slice A9 t.args.length k9], .slice none 0 0, .int .i64 0]) (by simp [results, Tryz.results11, go_sem, z0, z1]) rfl ?_
       rw [HE.out, ← HRES.out]
       refine ⟨⟨_, rfl, HTv.out.move fun b hb hl => ⟨?_, fun _ => ?_⟩⟩, (HB8.out.setCell (p := ⟨w.heap.size + 1 + 1, 0, none⟩) (by dsimp only; omega) _).setCell (p := ⟨w.heap.size + 1 + 1, 1, none⟩) (by dsimp only; omega) _⟩
       · have hb : w6.heap.size ≤ b := hb
         show w.heap.size ≤ b
         omega
       · have hb : w6.heap.size ≤ b := hb
         have hbr : b ≠ w.heap.size + 1 + 1 := by omega
         refine World.cell?_of_block ?_
         show ((w8.setCell ⟨w.heap.size + 1 + 1, 0, none⟩ _).setCell ⟨w.heap.size + 1 + 1, 1, none⟩ _).heap[b]? = w7.heap[b]?
         rw [Below.heap_setCell _ _ _ _ (by show b ≠ w.heap.size + 1 + 1; exact hbr), Below.heap_setCell _ _ _ _ (by show b ≠ w.heap.size + 1 + 1; exact hbr)]
         exact HFAR8.out b hbr
end Go.Proofs.YtaecndmncpfpfaaGreatDoor
set_option linter.unusedVariables false
set_option linter.unusedSimpArgs false
namespace Go.Proofs.YtaecndmncpfpfaaGreatDoor
open Go.RowKit
theorem below_put2 {w w' : World} {B R : Nat} (h : Below B w w') (hR : B ≤ R) (x y : Value) : Below B w ((w'.setCell ⟨R, 0, none⟩ x).setCell ⟨R, 1, none⟩ y) :=
 (h.setCell (p := ⟨R, 0, none⟩) hR x).setCell (p := ⟨R, 1, none⟩) hR y
theorem put2_box {w : World} {R : Nat} {a b : Value} {T : TypeId} (h : w.heap[R]? = some (.cells #[a, b] T (0, 0))) (x y : Value) : ((w.setCell ⟨R, 0, none⟩ x).setCell ⟨R, 1, none⟩ y).heap[R]? = some (.cells #[x, y] T (0, 0)) :=
 Bxs.set (vs := #[x, b]) (Bxs.set (vs := #[a, b]) h 0 x) 1 y
theorem put2_far {w : World} {R b : Nat} (hb : b ≠ R) (x y : Value) : ((w.setCell ⟨R, 0, none⟩ x).setCell ⟨R, 1, none⟩ y).heap[b]? = w.heap[b]? := by
 rw [Below.heap_setCell _ _ _ _ (by show b ≠ R; exact hb), Below.heap_setCell _ _ _ _ (by show b ≠ R; exact hb)]
