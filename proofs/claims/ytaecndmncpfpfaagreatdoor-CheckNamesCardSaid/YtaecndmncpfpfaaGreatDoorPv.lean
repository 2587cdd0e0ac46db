import Derived.Test.YtaecndmncpfpfaaGreatDoorPr
import Derived.Test.YtaecndmncpfpfaaGreatDoorKc
namespace Go.Proofs.YtaecndmncpfpfaaGreatDoor
open Go.RowKit
theorem glob_only {R : Nat} (hR : 0 < R) {w w' : World} (h : Only R w w') (hG : Knd.Glob w) : Knd.Glob w' := hG.kept (h.block 0 hG.lt (by simp <;> omega))
theorem glob_kv {R P : Nat} {vs : Value} (hR : 0 < R) (hP : 0 < P) (hv : vs.ownBlock ≠ some 0) {w w' : World} (h : Kv R P vs w w') (hG : Knd.Glob w) : Knd.Glob w' := hG.kept (h.block 0 hG.lt (by omega) (by omega) (fun e => hv e.symm))
theorem index_of {p : List UInt8} {b : UInt8} (h : b ∈ p) : 0 ≤ Lib.indexByte p b := by
 induction p with
 | nil => cases h
 | cons c l ih =>
   unfold Lib.indexByte
   split
   · omega
   · rename_i hc
     rcases List.mem_cons.1 h with e | e
     · subst e; simp at hc
     · have := ih e
       have hne : (Lib.indexByte l b == -1) = false := beq_eq_false_iff_ne.2 (by omega)
       rw [hne]
       simp
       omega
theorem hasB_of {p : List UInt8} {b : UInt8} (h : b ∈ p) : hasB p b = true := by
 unfold hasB
 rw [decide_eq_true_eq]
 exact index_of h
def ExOk (r R : Nat) (s : ByteArray) : Prop := ∀ (m : Nat) (w : World), Knd.Glob w → Rdr w R s m → Calls Tryz.prog 53 #[.pointer (some ⟨R, 0, none⟩), .int .i64 (r : Int)] w fun e w' => NOut (r + 1) R s w e w' (exprR Knd.zK (bl s) r m)
theorem word_part (r R P : Nat) (s : ByteArray) (hR : 0 < R) (hRP : R < P) (hX : 0 < r → ExOk r R s) (b : UInt8) (hb : (b = 100 ∨ b = 101 ∨ b = 110 ∨ b = 116) ∧ (b = 101 → 0 < r)) (m : Nat) (nd : Nd) (A : Option Addr) (c : Nat) (vs : Value) (cs : List Value) (w : World)
    (hG : Knd.Glob w) (hrd : Rdr w R s m) (hpn : PnI w P (r + 1) nd A c vs cs) (hkl : nd.kids.length ≤ 1000) :
    Calls Tryz.prog 162 #[.pointer (some ⟨R, 0, none⟩), .pointer (some ⟨P, 0, none⟩), .int .u8 (b.toNat : Int), .int .i64 (r : Int)] w fun e w' => POut (r + 1) R P s vs w e w' (partR Knd.zK (exprR Knd.zK (bl s) r) (bl s) b m nd) := by
 have hgo : ∀ w w', Only R w w' → Knd.Glob w → Knd.Glob w' := fun w w' h hG => glob_only hR h hG
 obtain ⟨hb, h0⟩ := hb
 rcases hb with rfl | rfl | rfl | rfl
 · rw [show (((100 : UInt8).toNat : Nat) : Int) = 100 by decide]
   exact part_digit Knd.zK _ r R P s m (r : Int) nd A c vs cs w hrd hpn hRP
 · rw [show (((101 : UInt8).toNat : Nat) : Int) = 101 by decide]
   exact part_expr Knd.zK _ r R P s m (r : Int) Knd.Glob hgo (hX (h0 rfl)) nd A c vs cs w hG hrd hpn hRP hkl
 · rw [show (((110 : UInt8).toNat : Nat) : Int) = 110 by decide]
   exact part_name Knd.zK _ r R P s m (r : Int) nd A c vs cs w hrd hpn hRP hkl
 · rw [show (((116 : UInt8).toNat : Nat) : Int) = 116 by decide]
   exact part_type Knd.zK _ r R P s m (r : Int) nd A c vs cs w hrd hpn hRP Knd.Glob hgo hG (fun m w hG h => readType_any R s m w hR hG h)
end Go.Proofs.YtaecndmncpfpfaaGreatDoor
namespace Go.Proofs.YtaecndmncpfpfaaGreatDoor
open Go.RowKit
theorem only_kv {R P : Nat} {vs : Value} {a b c : World} (hO : Only R a b) (hk : Kv R P vs b c) (hP : a.heap.size ≤ P) (hv : ∀ g, vs.ownBlock = some g → a.heap.size ≤ g) : Only R a c :=
 ⟨hk.os.trans hO.os, hk.tape.trans hO.tape, hk.output.trans hO.output, Nat.le_trans hO.size hk.size, fun i hi hne => (hk.block i (Nat.lt_of_lt_of_le hi hO.size) (fun e => hne (by rw [e])) (by omega) (fun e => by have := hv i e.symm; omega)).trans (hO.block i hi hne)⟩
set_option maxRecDepth 100000 in
set_option maxHeartbeats 4000000 in
theorem word_any (r R : Nat) (s : ByteArray) (m : Nat) (w : World) (hR : 0 < R) (hG : Knd.Glob w) (h : Rdr w R s m) (hr24 : r ≤ 24) (hX : 0 < r → ExOk r R s) :
    Calls Tryz.prog 89 #[.pointer (some ⟨R, 0, none⟩), .int .i64 ((r : Int) + 1)] w fun e w' => NOut (r + 2) R s w e w' (wordR Knd.zK (bl s) r m) := by
 have hRl := h.lt
 have hb1 := (Below.refl w.heap.size w).alloc (Nat.le_refl _) (.cells #[.string ⟨#[]⟩, .int .i64 0, .string ⟨#[]⟩, .int .i64 0, .slice none 0 0, .slice none 0 0] 41)
 have hn := heap_alloc_new w (.cells #[.string ⟨#[]⟩, .int .i64 0, .string ⟨#[]⟩, .int .i64 0, .slice none 0 0, .slice none 0 0] 41)
 have HN := Lib.hid hn
 have HR1 := Lib.hid (h.below hb1)
 have HR := Lib.hid h
 have HGG := Lib.hid hG
 have hGl := hG.lt
 have HXX := Lib.hid hX
 clear h hn hG hX
 go_enter Tryz.func89, Tryz.ntmps89
 go_wp2_with (fail)
 obtain ⟨w1, hw1⟩ : ∃ w1, w1 = w.alloc (.cells #[.string ⟨#[]⟩, .int .i64 0, .string ⟨#[]⟩, .int .i64 0, .slice none 0 0, .slice none 0 0] 41) := ⟨_, rfl⟩
 have hs1 : w1.heap.size = w.heap.size + 1 := by rw [hw1]; simp
 rw [← hw1] at hb1 HN HR1
 rw [← hw1]
 clear hw1
 refine (spelt_any R s m w1 HR1.out).mono ?_
 rintro e w2 ⟨⟨t, ht, rfl⟩, ho, hr⟩
 have HW : Hid (wordR Knd.zK (bl s) r m = (match wdP (bl t) with
  | none => (m + (spel (bl s) m).length, some (nameN (bl t)))
  | some (p, least) => if hasB p 101 && decide (r = 0) then (m + (spel (bl s) m).length, none)
    else if p = [] then (m + (spel (bl s) m).length, some (.mk (bl t) 0 [] ty0 []))
    else yN Knd.zK (exprR Knd.zK (bl s) r) (bl s) least p 0 40 (m + (spel (bl s) m).length) (.mk (bl t) 0 [] ty0 []))) := by
  show _ = _
  rw [ht]; rfl
 have HO2 := Lib.hid ((Only.of_below (R := R) hb1).trans ho)
 have HR2 := Lib.hid hr
 have HN2 := Lib.hid ((ho.block w.heap.size (by omega) (by simp; omega)).trans HN.out)
 have hs2 := ho.size
 clear ht ho hr HN HR1 hb1
 go_wp2_with (fail)
 refine (wordOf_str t w2).mono ?_
 rintro e w3 ⟨hout, hb3⟩
 have HR3 := Lib.hid (HR2.out.below hb3)
 have HN3 := Lib.hid ((hb3.block w.heap.size (by omega)).trans HN2.out)
 have HO3 := Lib.hid (HO2.out.trans (Only.of_below (R := R) hb3))
 have hs3 := hb3.size
 have d0 := zN HN3.out
 have d1 := zR HN3.out
 have d2 := zQ HN3.out
 have d3 := zP HN3.out
 have d4 := zO HN3.out
 have d5 := zL HN3.out
 have f0 := zB HN3.out 0
 have f1 := zB HN3.out 1
 have f2 := zB HN3.out 2
 have f3 := zB HN3.out 3
 have f4 := zB HN3.out 4
 have f5 := zB HN3.out 5
 have hl := zC HN3.out
 clear hb3 HR2 HN2 HO2
 revert hout
 revert HW
 cases hwp : wdP (bl t) with
 | none =>
   intro HW hout
   have HF : Hid (wordR Knd.zK (bl s) r m = (m + (spel (bl s) m).length, some (nameN (bl t)))) := HW
   obtain rfl : e = .returned (.tuple #[.agg #[.string ⟨#[]⟩, .int .i64 0], .bool false]) := hout
   clear HW hwp
   go_wp2_with (fail)
   refine bodyPost_ret (v := .tuple #[.agg #[.string ⟨#[110, 97, 109, 101]⟩, .int .i64 0, .string t, .int .i64 0, .slice none 0 0, .slice none 0 0], .bool true]) (by simp [results, Tryz.results89, go_sem, d0, d1, d2, d3, d4, d5, hl]) rfl ?_
   rw [HF.out]
   have hOO := HO3.out
   have hRR := HR3.out
   refine nout_good ?_ ?_ ?_
   · have := fun W => NdAt.leaf W (fun b => w.heap.size ≤ b) (r + 1) [110, 97, 109, 101] 0 (bl t)
     rw [str_bl] at this
     exact this _
   · refine Only.trans ?_ (Only.of_below ((Below.refl _ _).alloc (Nat.le_refl _) _))
     (repeat' (first | with_reducible assumption | with_reducible refine Only.far ?_ ?_ | (dsimp only; omega)))
   · refine Rdr.more ?_
     (repeat' (first | with_reducible assumption | with_reducible refine Rdr.far ?_ ?_ | (dsimp only; omega)))
 | some pl =>
   obtain ⟨p, least⟩ := pl
   intro HW hout
   obtain rfl : e = .returned (.tuple #[.agg #[.string ⟨p.toArray⟩, .int .i64 (least : Int)], .bool true]) := hout
   have HOK := Lib.hid (wdP_ok hwp)
   clear hwp
   go_wp2_with (fail)
   have hh := fun (W : World) => has_any p (least : Int) 101 W
   simp only [show (((101 : UInt8).toNat : Nat) : Int) = 101 from by decide] at hh
   have hb4 := (Below.refl w3.heap.size w3).alloc (Nat.le_refl _) (.cells #[.string ⟨p.toArray⟩, .int .i64 (least : Int)] 133)
   have HV4 := Lib.hid (heap_alloc_new w3 (.cells #[.string ⟨p.toArray⟩, .int .i64 (least : Int)] 133))
   have hs4 : (w3.alloc (.cells #[.string ⟨p.toArray⟩, .int .i64 (least : Int)] 133)).heap.size = w3.heap.size + 1 := by simp
   generalize w3.alloc (.cells #[.string ⟨p.toArray⟩, .int .i64 (least : Int)] 133) = w4 at *
   refine (hh w4).mono ?_
   clear hh
   rintro e w5 ⟨rfl, hb5⟩
   have hb45 := hb4.trans (hb5.mono (by omega))
   have hs5 := hb5.size
   have HR5 := Lib.hid (HR3.out.below hb45)
   have HO5 : Hid (Only R w w5) := HO3.out.trans (Only.of_below (R := R) hb45)
   have HN5 := Lib.hid ((hb45.block w.heap.size (by omega)).trans HN3.out)
   have HV5 := Lib.hid ((hb5.block w3.heap.size (by omega)).trans HV4.out)
   clear d0 d1 d2 d3 d4 d5 f0 f1 f2 f3 f4 f5 hl
   have d0 := zN HN5.out
   have d1 := zR HN5.out
   have d2 := zQ HN5.out
   have d3 := zP HN5.out
   have d4 := zO HN5.out
   have d5 := zL HN5.out
   have f0 := zB HN5.out 0
   have f1 := zB HN5.out 1
   have f2 := zB HN5.out 2
   have f3 := zB HN5.out 3
   have f4 := zB HN5.out 4
   have f5 := zB HN5.out 5
   have hl := zC HN5.out
   have v0 := zG HV5.out
   have v1 := zF HV5.out
   have vl := zC HV5.out
   clear hb4 hb5 hb45 HN3 HR3 HO3 HV4
   by_cases hbad : hasB p 101 = true ∧ r = 0
   · obtain ⟨hh, hr0⟩ := hbad
     have HF : Hid (wordR Knd.zK (bl s) r m = (m + (spel (bl s) m).length, none)) := by
      show _ = _
      rw [HW.out]
      simp only [hh, hr0]
      rfl
     subst hr0
     clear HW
     rw [hh]
     go_wp2_with (fail)
     refine bodyPost_ret (v := .tuple #[.agg #[.string ⟨#[]⟩, .int .i64 0, .string ⟨#[]⟩, .int .i64 0, .slice none 0 0, .slice none 0 0], .bool false]) (by simp [results, Tryz.results89, go_sem, d0, d1, d2, d3, d4, d5]) rfl ?_
     rw [HF.out]
     have hOO := HO5.out
     have hRR := HR5.out
     refine nout_bad ⟨_, _, _, _, _, _, _, _, _, _, rfl⟩ ?_ ?_
     · (repeat' (first | with_reducible assumption | with_reducible refine Only.far ?_ ?_ | with_reducible refine Only.more ?_ | (dsimp only; omega)))
     · (repeat' (first | with_reducible assumption | with_reducible refine Rdr.far ?_ ?_ | with_reducible refine Rdr.more ?_ | (dsimp only; omega)))
   · have HW2 : Hid (wordR Knd.zK (bl s) r m = if p = [] then (m + (spel (bl s) m).length, some (.mk (bl t) 0 [] ty0 []))
         else yN Knd.zK (exprR Knd.zK (bl s) r) (bl s) least p 0 40 (m + (spel (bl s) m).length) (.mk (bl t) 0 [] ty0 [])) := by
      show _ = _
      rw [HW.out]
      have : (hasB p 101 && decide (r = 0)) = false := by
       rcases Bool.eq_false_or_eq_true (hasB p 101) with h | h
       · have : ¬ r = 0 := fun e => hbad ⟨h, e⟩
         simp [h, this]
       · simp [h]
      simp [this]
     clear HW
     obtain ⟨ps, hps⟩ : ∃ ps, ps = ByteArray.mk p.toArray := ⟨_, rfl⟩
     have hpb : bl ps = p := by rw [hps]; unfold bl; simp
     have hpz : ps.size = p.length := by rw [← zT, hpb]
     have HPB := Lib.hid hpb
     obtain ⟨hok1, hok2, hok3⟩ := HOK.out
     have HOK3 := Lib.hid hok3
     rw [← hps]
     rw [← hps] at v0 HV5
     clear hps hok3
     cases hh : hasB p 101 with
     | true =>
       have hr0 : ¬ r = 0 := fun e => hbad ⟨hh, e⟩
       have hre : (((r : Int) + 1) == 1) = false := beq_eq_false_iff_ne.2 (by omega)
       have hpn : p ≠ [] := fun e => by rw [e] at hh; exact absurd hh (by decide)
       have hX0 : Hid (∀ b ∈ p, b = 101 → 0 < r) := fun _ _ _ => by omega
       clear hbad hh
       have hpl : ps.toList ≠ [] := by rw [Lib.toList_data]; exact fun e => hpn (hpb.symm.trans e)
       have hpl2 : (ps.toList == ([] : List UInt8)) = false := by simp [hpl]
       have hemp : ps.toList.isEmpty = false := by simp [hpl]
       have HF : Hid (wordR Knd.zK (bl s) r m = yN Knd.zK (exprR Knd.zK (bl s) r) (bl s) least (bl ps) 0 40 (m + (spel (bl s) m).length) (.mk (bl t) 0 [] ty0 [])) := by show _ = _; rw [HW2.out, if_neg hpn, HPB.out]
       clear hpb hpn
       have hba := (Below.refl w5.heap.size w5).alloc (Nat.le_refl _) (.cells #[.string t, .int .i64 0, .string ⟨#[]⟩, .int .i64 0, .slice none 0 0, .slice none 0 0] 41)
       have HP6 : Hid (PnI (w5.alloc (.cells #[.string t, .int .i64 0, .string ⟨#[]⟩, .int .i64 0, .slice none 0 0, .slice none 0 0] 41)) w5.heap.size (r + 1) (.mk (bl t) 0 [] ty0 []) none 0 (.slice none 0 0) []) := by
        refine ⟨World.ownsRow_nil _ _ _ _, ?_, ⟨1, ty_zero _ _⟩, fun i a ha => by simp [Nd.kids] at ha⟩
        have := heap_alloc_new w5 (.cells #[.string t, .int .i64 0, .string ⟨#[]⟩, .int .i64 0, .slice none 0 0, .slice none 0 0] 41)
        simp only [Nd.op, Nd.int, Nd.text, Nd.ty]
        rw [str_bl]
        exact this
       have HR6 := Lib.hid (HR5.out.below hba)
       have HO6 : Hid (Only R w (w5.alloc (.cells #[.string t, .int .i64 0, .string ⟨#[]⟩, .int .i64 0, .slice none 0 0, .slice none 0 0] 41))) := HO5.out.trans (Only.of_below (R := R) hba)
       have HN6 := Lib.hid ((hba.block w.heap.size (by omega)).trans HN5.out)
       have HV6 := Lib.hid ((hba.block w3.heap.size (by omega)).trans HV5.out)
       have hs6 : (w5.alloc (.cells #[.string t, .int .i64 0, .string ⟨#[]⟩, .int .i64 0, .slice none 0 0, .slice none 0 0] 41)).heap.size = w5.heap.size + 1 := by simp
       have hb1 : w5.heap.size < (w5.alloc (.cells #[.string t, .int .i64 0, .string ⟨#[]⟩, .int .i64 0, .slice none 0 0, .slice none 0 0] 41)).heap.size := by omega
       go_upto_region 8 with (fail)
       generalize w5.alloc (.cells #[.string t, .int .i64 0, .string ⟨#[]⟩, .int .i64 0, .slice none 0 0, .slice none 0 0] 41) = w6 at *
       obtain ⟨P, hP⟩ : ∃ P, P = w5.heap.size := ⟨_, rfl⟩
       obtain ⟨BV, hBV⟩ : ∃ BV, BV = w3.heap.size := ⟨_, rfl⟩
       rw [← hP] at HP6 hb1
       rw [← hP]
       rw [← hBV] at HV6
       rw [← hBV]
       have hwP : w.heap.size < P := by omega
       have hwB : w.heap.size < BV := by omega
       have hBP : BV < P := by omega
       have HHP := Lib.hid hP
       have HHB := Lib.hid hBV
       have x0 := zG HV6.out
       have x1 := zF HV6.out
       have xl := zC HV6.out
       have hroom : (r : Int) + 1 - 1 = (r : Int) := by omega
       clear hba d0 d1 d2 d3 d4 d5 f0 f1 f2 f3 f4 f5 v0 v1 vl hl hP hBV
       go_wp2_with (fail)
       have hPT := fun (i : Nat) (hi : i < ps.size) (m : Nat) (nd : Nd) (A : Option Addr) (c : Nat) (vs : Value) (cs : List Value) (w' : World) (hG : Knd.Glob w') (hrd : Rdr w' R s m) (hpn : PnI w' P (r + 1) nd A c vs cs) (hkl : nd.kids.length ≤ 1000) => word_part r R P s hR (by omega) HXX.out (lkB (bl ps) i) (by have hm : lkB (bl ps) i ∈ p := (by rw [lkB_at (by rw [zT]; exact hi), ← HPB.out]; exact List.getElem_mem _); exact ⟨HOK3.out _ hm, hX0.out _ hm⟩) m nd A c vs cs w' hG hrd hpn hkl
       try rw [hroom]
       have hG6 : Knd.Glob w6 := glob_only hR HO6.out HGG.out
       refine (parts_any Knd.zK (exprR Knd.zK (bl s) r) r R P least s ps (m + (spel (bl s) m).length) (r : Int) (.mk (bl t) 0 [] ty0 []) none 0 (.slice none 0 0) [] w6 HR6.out HP6.out (by omega) (by omega) (by simp [Nd.kids]) (by omega) Knd.Glob (fun w' hk => glob_kv hR (by omega) (by simp [Value.ownBlock]) hk hG6) hPT (fun p m nd m' nd' h => kids_one Knd.zK _ _ p m nd m' nd' h)).mono ?_
       revert HF
       generalize yN Knd.zK (exprR Knd.zK (bl s) r) (bl s) least (bl ps) 0 40 (m + (spel (bl s) m).length) (.mk (bl t) 0 [] ty0 []) = pp
       clear hPT x0 x1 xl
       intro HF
       rintro e w7 ⟨he, hk7, hr7, hx7, hn7⟩
       have hO7 : Only R w w7 := only_kv HO6.out hk7 (by omega) (fun g hg => by simp [Value.ownBlock] at hg)
       have HN7 := Lib.hid ((hk7.block w.heap.size (by omega) (by omega) (by omega) (by simp [Value.ownBlock])).trans HN6.out)
       have HR7 := Lib.hid hr7
       have HO7 := Lib.hid hO7
       have d0 := zN HN7.out
       have d1 := zR HN7.out
       have d2 := zQ HN7.out
       have d3 := zP HN7.out
       have d4 := zO HN7.out
       have d5 := zL HN7.out
       have f0 := zB HN7.out 0
       have f1 := zB HN7.out 1
       have f2 := zB HN7.out 2
       have f3 := zB HN7.out 3
       have f4 := zB HN7.out 4
       have f5 := zB HN7.out 5
       have hl := zC HN7.out
       clear hk7 hr7 hO7
       match pp, HF, he, hx7, hn7, HR7 with
       | (m3, none), HF, he, hx7, _, HR7 =>
         obtain rfl : e = .returned (.bool false) := he
         obtain ⟨o7, i7, t7, k7, A7, n7, c7, K7, z7, e7, hb7⟩ := hx7
         have q0 := zN hb7
         have q1 := zR hb7
         have q2 := zQ hb7
         have q3 := zP hb7
         have q4 := zO hb7
         have q5 := zL hb7
         have ql := zC hb7
         clear hb7
         go_wp2_with (fail)
         refine bodyPost_ret (v := .tuple #[.agg #[.string o7, .int .i64 i7, .string t7, .int .i64 k7, .slice A7 n7 c7, .slice K7 z7 e7], .bool false]) (by simp [results, Tryz.results89, go_sem, d0, d1, d2, d3, d4, d5]) rfl ?_
         rw [HF.out]
         have hOO := HO7.out
         have hRR := HR7.out
         refine nout_bad ⟨_, _, _, _, _, _, _, _, _, _, rfl⟩ ?_ ?_
         · (repeat' (first | with_reducible assumption | with_reducible refine Only.far ?_ ?_ | with_reducible refine Only.more ?_ | (dsimp only; omega)))
         · (repeat' (first | with_reducible assumption | with_reducible refine Rdr.far ?_ ?_ | with_reducible refine Rdr.more ?_ | (dsimp only; omega)))
       | (m3, some nd2), HF, he, _, hn7, HR7 =>
         obtain rfl : e = .returned (.bool true) := he
         obtain ⟨A2, c2, vs2, cs2, hpn2, _⟩ := hn7 nd2 rfl
         obtain ⟨K2, k2, rfl⟩ := own_slice hpn2.own
         have q0 := zN hpn2.box
         have q1 := zR hpn2.box
         have q2 := zQ hpn2.box
         have q3 := zP hpn2.box
         have q4 := zO hpn2.box
         have q5 := zL hpn2.box
         have ql := zC hpn2.box
         have HND := Lib.hid hpn2.nd
         clear hpn2 hn7
         go_wp2_with (fail)
         refine bodyPost_ret (v := .tuple #[.agg #[.string ⟨nd2.op.toArray⟩, .int .i64 nd2.int, .string ⟨nd2.text.toArray⟩, .int .i64 nd2.ty.kind, .slice A2 nd2.ty.args.length c2, .slice K2 nd2.kids.length k2], .bool true]) (by simp [results, Tryz.results89, go_sem, d0, d1, d2, d3, d4, d5]) rfl ?_
         rw [HF.out]
         have hOO := HO7.out
         have hRR := HR7.out
         refine nout_good ?_ ?_ ?_
         · refine NdAt.move (fun b hb hlb => ⟨by omega, fun o => World.cell?_of_block ?_⟩) (r + 1 + 1) _ _ HND.out
           exact set6_block (by show b ≠ w.heap.size; omega)
         · (repeat' (first | with_reducible assumption | with_reducible refine Only.far ?_ ?_ | with_reducible refine Only.more ?_ | (dsimp only; omega)))
         · (repeat' (first | with_reducible assumption | with_reducible refine Rdr.far ?_ ?_ | with_reducible refine Rdr.more ?_ | (dsimp only; omega)))
     | false =>
       by_cases hpn : p = []
       · have hpe : ps.toList = [] := by rw [Lib.toList_data]; exact hpb.trans hpn
         have hpe2 : (ps.toList == ([] : List UInt8)) = true := by simp [hpe]
         have HF : Hid (wordR Knd.zK (bl s) r m = (m + (spel (bl s) m).length, some (.mk (bl t) 0 [] ty0 []))) := by show _ = _; rw [HW2.out, if_pos hpn]
         have hp0 : ps = ⟨#[]⟩ := by rw [← str_bl ps, hpb, hpn]
         subst hp0
         clear hbad hh hpb hpn hpe hpe2
         go_wp2_with (fail)
         refine bodyPost_ret (v := .tuple #[.agg #[.string t, .int .i64 0, .string ⟨#[]⟩, .int .i64 0, .slice none 0 0, .slice none 0 0], .bool true]) (by simp [results, Tryz.results89, go_sem, d0, d1, d2, d3, d4, d5, hl]) rfl ?_
         rw [HF.out]
         have hOO := HO5.out
         have hRR := HR5.out
         refine nout_good ?_ ?_ ?_
         · have := fun W => NdAt.leaf W (fun b => w.heap.size ≤ b) (r + 1) (bl t) 0 []
           rw [str_bl] at this
           exact this _
         · (repeat' (first | with_reducible assumption | with_reducible refine Only.far ?_ ?_ | with_reducible refine Only.more ?_ | (dsimp only; omega)))
         · (repeat' (first | with_reducible assumption | with_reducible refine Rdr.far ?_ ?_ | with_reducible refine Rdr.more ?_ | (dsimp only; omega)))
       · have hX0 : Hid (∀ b ∈ p, b = 101 → 0 < r) := fun b hb e => absurd (hasB_of hb) (by rw [e, hh]; decide)
         clear hbad hh
         have hpl : ps.toList ≠ [] := by rw [Lib.toList_data]; exact fun e => hpn (hpb.symm.trans e)
         have hpl2 : (ps.toList == ([] : List UInt8)) = false := by simp [hpl]
         have hemp : ps.toList.isEmpty = false := by simp [hpl]
         have HF : Hid (wordR Knd.zK (bl s) r m = yN Knd.zK (exprR Knd.zK (bl s) r) (bl s) least (bl ps) 0 40 (m + (spel (bl s) m).length) (.mk (bl t) 0 [] ty0 [])) := by show _ = _; rw [HW2.out, if_neg hpn, HPB.out]
         clear hpb hpn
         have hba := (Below.refl w5.heap.size w5).alloc (Nat.le_refl _) (.cells #[.string t, .int .i64 0, .string ⟨#[]⟩, .int .i64 0, .slice none 0 0, .slice none 0 0] 41)
         have HP6 : Hid (PnI (w5.alloc (.cells #[.string t, .int .i64 0, .string ⟨#[]⟩, .int .i64 0, .slice none 0 0, .slice none 0 0] 41)) w5.heap.size (r + 1) (.mk (bl t) 0 [] ty0 []) none 0 (.slice none 0 0) []) := by
          refine ⟨World.ownsRow_nil _ _ _ _, ?_, ⟨1, ty_zero _ _⟩, fun i a ha => by simp [Nd.kids] at ha⟩
          have := heap_alloc_new w5 (.cells #[.string t, .int .i64 0, .string ⟨#[]⟩, .int .i64 0, .slice none 0 0, .slice none 0 0] 41)
          simp only [Nd.op, Nd.int, Nd.text, Nd.ty]
          rw [str_bl]
          exact this
         have HR6 := Lib.hid (HR5.out.below hba)
         have HO6 : Hid (Only R w (w5.alloc (.cells #[.string t, .int .i64 0, .string ⟨#[]⟩, .int .i64 0, .slice none 0 0, .slice none 0 0] 41))) := HO5.out.trans (Only.of_below (R := R) hba)
         have HN6 := Lib.hid ((hba.block w.heap.size (by omega)).trans HN5.out)
         have HV6 := Lib.hid ((hba.block w3.heap.size (by omega)).trans HV5.out)
         have hs6 : (w5.alloc (.cells #[.string t, .int .i64 0, .string ⟨#[]⟩, .int .i64 0, .slice none 0 0, .slice none 0 0] 41)).heap.size = w5.heap.size + 1 := by simp
         have hb1 : w5.heap.size < (w5.alloc (.cells #[.string t, .int .i64 0, .string ⟨#[]⟩, .int .i64 0, .slice none 0 0, .slice none 0 0] 41)).heap.size := by omega
         go_upto_region 8 with (fail)
         generalize w5.alloc (.cells #[.string t, .int .i64 0, .string ⟨#[]⟩, .int .i64 0, .slice none 0 0, .slice none 0 0] 41) = w6 at *
         obtain ⟨P, hP⟩ : ∃ P, P = w5.heap.size := ⟨_, rfl⟩
         obtain ⟨BV, hBV⟩ : ∃ BV, BV = w3.heap.size := ⟨_, rfl⟩
         rw [← hP] at HP6 hb1
         rw [← hP]
         rw [← hBV] at HV6
         rw [← hBV]
         have hwP : w.heap.size < P := by omega
         have hwB : w.heap.size < BV := by omega
         have hBP : BV < P := by omega
         have HHP := Lib.hid hP
         have HHB := Lib.hid hBV
         have x0 := zG HV6.out
         have x1 := zF HV6.out
         have xl := zC HV6.out
         have hroom : (r : Int) + 1 - 1 = (r : Int) := by omega
         clear hba d0 d1 d2 d3 d4 d5 f0 f1 f2 f3 f4 f5 v0 v1 vl hl hP hBV
         go_wp2_with (fail)
         have hPT := fun (i : Nat) (hi : i < ps.size) (m : Nat) (nd : Nd) (A : Option Addr) (c : Nat) (vs : Value) (cs : List Value) (w' : World) (hG : Knd.Glob w') (hrd : Rdr w' R s m) (hpn : PnI w' P (r + 1) nd A c vs cs) (hkl : nd.kids.length ≤ 1000) => word_part r R P s hR (by omega) HXX.out (lkB (bl ps) i) (by have hm : lkB (bl ps) i ∈ p := (by rw [lkB_at (by rw [zT]; exact hi), ← HPB.out]; exact List.getElem_mem _); exact ⟨HOK3.out _ hm, hX0.out _ hm⟩) m nd A c vs cs w' hG hrd hpn hkl
         try rw [hroom]
         have hG6 : Knd.Glob w6 := glob_only hR HO6.out HGG.out
         refine (parts_any Knd.zK (exprR Knd.zK (bl s) r) r R P least s ps (m + (spel (bl s) m).length) (r : Int) (.mk (bl t) 0 [] ty0 []) none 0 (.slice none 0 0) [] w6 HR6.out HP6.out (by omega) (by omega) (by simp [Nd.kids]) (by omega) Knd.Glob (fun w' hk => glob_kv hR (by omega) (by simp [Value.ownBlock]) hk hG6) hPT (fun p m nd m' nd' h => kids_one Knd.zK _ _ p m nd m' nd' h)).mono ?_
         revert HF
         generalize yN Knd.zK (exprR Knd.zK (bl s) r) (bl s) least (bl ps) 0 40 (m + (spel (bl s) m).length) (.mk (bl t) 0 [] ty0 []) = pp
         clear hPT x0 x1 xl
         intro HF
         rintro e w7 ⟨he, hk7, hr7, hx7, hn7⟩
         have hO7 : Only R w w7 := only_kv HO6.out hk7 (by omega) (fun g hg => by simp [Value.ownBlock] at hg)
         have HN7 := Lib.hid ((hk7.block w.heap.size (by omega) (by omega) (by omega) (by simp [Value.ownBlock])).trans HN6.out)
         have HR7 := Lib.hid hr7
         have HO7 := Lib.hid hO7
         have d0 := zN HN7.out
         have d1 := zR HN7.out
         have d2 := zQ HN7.out
         have d3 := zP HN7.out
         have d4 := zO HN7.out
         have d5 := zL HN7.out
         have f0 := zB HN7.out 0
         have f1 := zB HN7.out 1
         have f2 := zB HN7.out 2
         have f3 := zB HN7.out 3
         have f4 := zB HN7.out 4
         have f5 := zB HN7.out 5
         have hl := zC HN7.out
         clear hk7 hr7 hO7
         match pp, HF, he, hx7, hn7, HR7 with
         | (m3, none), HF, he, hx7, _, HR7 =>
           obtain rfl : e = .returned (.bool false) := he
           obtain ⟨o7, i7, t7, k7, A7, n7, c7, K7, z7, e7, hb7⟩ := hx7
           have q0 := zN hb7
           have q1 := zR hb7
           have q2 := zQ hb7
           have q3 := zP hb7
           have q4 := zO hb7
           have q5 := zL hb7
           have ql := zC hb7
           clear hb7
           go_wp2_with (fail)
           refine bodyPost_ret (v := .tuple #[.agg #[.string o7, .int .i64 i7, .string t7, .int .i64 k7, .slice A7 n7 c7, .slice K7 z7 e7], .bool false]) (by simp [results, Tryz.results89, go_sem, d0, d1, d2, d3, d4, d5]) rfl ?_
           rw [HF.out]
           have hOO := HO7.out
           have hRR := HR7.out
           refine nout_bad ⟨_, _, _, _, _, _, _, _, _, _, rfl⟩ ?_ ?_
           · (repeat' (first | with_reducible assumption | with_reducible refine Only.far ?_ ?_ | with_reducible refine Only.more ?_ | (dsimp only; omega)))
           · (repeat' (first | with_reducible assumption | with_reducible refine Rdr.far ?_ ?_ | with_reducible refine Rdr.more ?_ | (dsimp only; omega)))
         | (m3, some nd2), HF, he, _, hn7, HR7 =>
           obtain rfl : e = .returned (.bool true) := he
           obtain ⟨A2, c2, vs2, cs2, hpn2, _⟩ := hn7 nd2 rfl
           obtain ⟨K2, k2, rfl⟩ := own_slice hpn2.own
           have q0 := zN hpn2.box
           have q1 := zR hpn2.box
           have q2 := zQ hpn2.box
           have q3 := zP hpn2.box
           have q4 := zO hpn2.box
           have q5 := zL hpn2.box
           have ql := zC hpn2.box
           have HND := Lib.hid hpn2.nd
           clear hpn2 hn7
           go_wp2_with (fail)
           refine bodyPost_ret (v := .tuple #[.agg #[.string ⟨nd2.op.toArray⟩, .int .i64 nd2.int, .string ⟨nd2.text.toArray⟩, .int .i64 nd2.ty.kind, .slice A2 nd2.ty.args.length c2, .slice K2 nd2.kids.length k2], .bool true]) (by simp [results, Tryz.results89, go_sem, d0, d1, d2, d3, d4, d5]) rfl ?_
           rw [HF.out]
           have hOO := HO7.out
           have hRR := HR7.out
           refine nout_good ?_ ?_ ?_
           · refine NdAt.move (fun b hb hlb => ⟨by omega, fun o => World.cell?_of_block ?_⟩) (r + 1 + 1) _ _ HND.out
             exact set6_block (by show b ≠ w.heap.size; omega)
           · (repeat' (first | with_reducible assumption | with_reducible refine Only.far ?_ ?_ | with_reducible refine Only.more ?_ | (dsimp only; omega)))
           · (repeat' (first | with_reducible assumption | with_reducible refine Rdr.far ?_ ?_ | with_reducible refine Rdr.more ?_ | (dsimp only; omega)))
