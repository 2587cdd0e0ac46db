import Derived.Test.YtaecndmncpfpfaaGreatDoorPe
namespace Go.Proofs.YtaecndmncpfpfaaGreatDoor
open Go.RowKit
theorem box2_new (w : World) (a b : Value) (t : TypeId) : (w.alloc (.cells #[a, b] t)).heap[w.heap.size]? = some (.cells #[a, b] t (0, 0)) := heap_alloc_new w _
structure PsI (w1 : World) (d R P : Nat) (s ps : ByteArray) (least : Nat) (vs : Value) (B : Nat) (wr : World) (m : Nat) (nd : Nd) (A : Option Addr) (c : Nat) (vs' : Value) (cs' : List Value) : Prop where
 pn : PnI wr P d nd A c vs' cs'
 rd : Rdr wr R s m
 kv : Kv R P vs w1 wr
 own : OwnTo w1 vs vs'
 box : wr.heap[B]? = some (.cells #[.string ps, .int .i64 (least : Int)] 133 (0, 0))
theorem PsI.only {w1 wr wx : World} {d R P least B m m' c : Nat} {s ps : ByteArray} {vs vs' : Value} {nd : Nd} {A : Option Addr} {cs' : List Value} (h : PsI w1 d R P s ps least vs B wr m nd A c vs' cs') (hRP : R < P) (hB : P < B) (hO : Only R wr wx) (hr : Rdr wx R s m') : PsI w1 d R P s ps least vs B wx m' nd A c vs' cs' :=
 ⟨h.pn.only hRP hO, hr, h.kv.trans h.own (Kv.of_only hO), h.own, (hO.block B (zC h.box) (by simp; omega)).trans h.box⟩
theorem PsI.part {w1 wr wx : World} {d R P least B m m' c c2 : Nat} {s ps : ByteArray} {vs vs' vs2 : Value} {nd nd2 : Nd} {A A2 : Option Addr} {cs' cs2 : List Value} (h : PsI w1 d R P s ps least vs B wr m nd A c vs' cs') (hRP : R < P) (hB : P < B) (hB1 : B < w1.heap.size) (hvB : ∀ g, vs.ownBlock = some g → g < B)
    (hk : Kv R P vs' wr wx) (hr : Rdr wx R s m') (hn : PnI wx P d nd2 A2 c2 vs2 cs2) (ho : OwnTo wr vs' vs2) : PsI w1 d R P s ps least vs B wx m' nd2 A2 c2 vs2 cs2 := by
 refine ⟨hn, hr, h.kv.trans h.own hk, h.own.trans h.kv.size ho, (hk.block B (zC h.box) (by omega) (by omega) (fun e => ?_)).trans h.box⟩
 rcases h.own with h1 | h1
 · have := hvB B (h1.symm.trans e.symm); omega
 · have := h1 B e.symm; omega
theorem pout_bad {w w1 wr : World} {d R P least B m c : Nat} {s ps : ByteArray} {vs vs' : Value} {nd : Nd} {A : Option Addr} {cs' : List Value} (hk : Kv R P vs w w1) (h : PsI w1 d R P s ps least vs B wr m nd A c vs' cs') : POut d R P s vs w (.returned (.bool false)) wr (m, none) :=
 ⟨rfl, hk.trans (.inl rfl) h.kv, h.rd, h.pn.boxN, fun _ hh => by cases hh⟩
theorem pout_ok {w w1 wr : World} {d R P least B m c : Nat} {s ps : ByteArray} {vs vs' : Value} {nd : Nd} {A : Option Addr} {cs' : List Value} (hk : Kv R P vs w w1) (h : PsI w1 d R P s ps least vs B wr m nd A c vs' cs') : POut d R P s vs w (.returned (.bool true)) wr (m, some nd) :=
 ⟨rfl, hk.trans (.inl rfl) h.kv, h.rd, h.pn.boxN, fun nd' hh => by cases hh; exact ⟨A, c, vs', cs', h.pn, OwnTo.trans (.inl rfl) hk.size h.own⟩⟩
theorem parts_step (kp : List UInt8 → Nat × Option Ty) (f : Nat → Nat × Option Nd) (l : List UInt8) (least : Nat) (p : UInt8) (ps : List UInt8) (i : Nat) (mark : UInt8) (m : Nat) (nd : Nd) :
    yN kp f l least (p :: ps) i mark m nd = bindP (markR l m mark) fun m1 _ => bindP (partR kp f l p m1 nd) fun m2 nd' =>
     if least ≤ i + 1 then (match markR l m2 41 with
      | (m3, some _) => (m3, some nd')
      | (m3, none) => yN kp f l least ps (i + 1) 44 m3 nd')
     else yN kp f l least ps (i + 1) 44 m2 nd' := rfl
theorem mark_no {l : List UInt8} {m : Nat} {b : UInt8} (h : rdB l (skip l m) b = false) : markR l m b = (skip l m, none) := by unfold markR; rw [h]; rfl
theorem mark_yes {l : List UInt8} {m : Nat} {b : UInt8} (h : rdB l (skip l m) b = true) : markR l m b = (skip l m + 1, some ()) := by unfold markR; rw [h]; rfl
set_option maxRecDepth 100000 in
set_option maxHeartbeats 4000000 in
theorem parts_any (kp : List UInt8 → Nat × Option Ty) (f : Nat → Nat × Option Nd) (d R P least : Nat) (s ps : ByteArray) (m : Nat) (room : Int) (nd : Nd) (A : Option Addr) (c : Nat) (vs : Value) (cs : List Value) (w : World) (h : Rdr w R s m) (hN : PnI w P (d + 1) nd A c vs cs) (hRP : R < P)
    (hps : ps.size ≤ 64) (hnd : nd.kids.length ≤ 900) (hle : least ≤ 1000)
    (G : World → Prop) (hGk : ∀ w', Kv R P vs w w' → G w')
    (hPart : ∀ (i : Nat), i < ps.size → ∀ (m : Nat) (nd : Nd) (A : Option Addr) (c : Nat) (vs : Value) (cs : List Value) (w : World), G w → Rdr w R s m → PnI w P (d + 1) nd A c vs cs → nd.kids.length ≤ 1000 →
      Calls Tryz.prog 162 #[.pointer (some ⟨R, 0, none⟩), .pointer (some ⟨P, 0, none⟩), .int .u8 ((lkB (bl ps) i).toNat : Int), .int .i64 room] w fun e w' => POut (d + 1) R P s vs w e w' (partR kp f (bl s) (lkB (bl ps) i) m nd))
    (hKids : ∀ p m nd m' nd', partR kp f (bl s) p m nd = (m', some nd') → nd'.kids.length ≤ nd.kids.length + 1) :
    Calls Tryz.prog 133 #[.pointer (some ⟨R, 0, none⟩), .pointer (some ⟨P, 0, none⟩), .agg #[.string ps, .int .i64 (least : Int)], .int .i64 room] w fun e w' => POut (d + 1) R P s vs w e w' (yN kp f (bl s) least (bl ps) 0 40 m nd) := by
 have hRl := h.lt
 have hPl := zC hN.box
 have hown := hN.own.lt
 have HB := Lib.hid (box2_new w (.string ps) (.int .i64 (least : Int)) 133)
 have hba := (Below.refl w.heap.size w).alloc (Nat.le_refl _) (.cells #[.string ps, .int .i64 (least : Int)] 133)
 have hOa : Only R w (w.alloc (.cells #[.string ps, .int .i64 (least : Int)] 133)) := Only.of_below hba
 have HI : Hid (PsI (w.alloc (.cells #[.string ps, .int .i64 (least : Int)] 133)) (d + 1) R P s ps least vs w.heap.size (w.alloc (.cells #[.string ps, .int .i64 (least : Int)] 133)) m nd A c vs cs) :=
  ⟨hN.only hRP hOa, h.below hba, Kv.of_only (Only.refl _ _), .inl rfl, HB.out⟩
 have HKV : Hid (Kv R P vs w (w.alloc (.cells #[.string ps, .int .i64 (least : Int)] 133))) := Kv.of_only hOa
 have HPT := Lib.hid hPart
 have HGK := Lib.hid hGk
 have HKD := Lib.hid hKids
 have HV : Hid (∀ g, vs.ownBlock = some g → g < w.heap.size) := fun g hg => (hown g hg).2
 have d0 := zG HB.out
 have d1 := zF HB.out
 have hbs := zT ps
 clear h hN hPart hKids hown hba hOa hGk
 go_enter Tryz.func133, Tryz.ntmps133
 go_wp2_with (fail)
 obtain ⟨w1, hw1⟩ : ∃ w1, w1 = w.alloc (.cells #[.string ps, .int .i64 (least : Int)] 133) := ⟨_, rfl⟩
 have hs1 : w1.heap.size = w.heap.size + 1 := by rw [hw1]; simp
 rw [← hw1] at HI HKV
 rw [← hw1]
 clear hw1 d0 d1 HB
 obtain ⟨B, hB⟩ : ∃ B, B = w.heap.size := ⟨_, rfl⟩
 rw [← hB] at hPl hs1 HV HI hRl
 rw [← hB]
 have HBB := Lib.hid hB
 clear hB
 go_loopw [9, 14] (fun mk iv wr => ∃ (i : Nat) (mark : UInt8) (m' : Nat) (nd' : Nd) (A' : Option Addr) (c' : Nat) (vs' : Value) (cs' : List Value), mk = .int .u8 (mark.toNat : Int) ∧ iv = .int .i64 (i : Int) ∧ i ≤ ps.size ∧ Hid (mark ≠ 0) ∧ nd'.kids.length ≤ 900 + i ∧ Hid (yN kp f (bl s) least (bl ps) 0 40 m nd = yN kp f (bl s) least ((bl ps).drop i) i mark m' nd') ∧ Hid (PsI w1 (d + 1) R P s ps least vs B wr m' nd' A' c' vs' cs')) (fun _ i _ => ps.size - (intOf i).toNat)
 case atStart => exact ⟨0, 40, m, nd, A, c, vs, cs, rfl, rfl, Nat.zero_le _, Lib.hid (by decide), by omega, Lib.hid rfl, HI⟩
 case round =>
  obtain ⟨i, mark, m', nd', A', c', vs', cs', rfl, rfl, hi, hmk, hkl, HE, HJ⟩ := hrel
  have e0 := zG HJ.out.box
  have e1 := zF HJ.out.box
  have hbl := zC HJ.out.box
  by_cases hlt : i < ps.size
  · have hlt2 : ((i : Int) < (ps.size : Int)) := by omega
    have hdr : Hid ((bl ps).drop i = lkB (bl ps) i :: (bl ps).drop (i + 1)) := by
     show _ = _
     rw [List.drop_eq_getElem_cons (by omega), lkB_at (by omega)]
    go_wp2_with (fail)
    refine (readMark_any R s m' mark wr hmk.out HJ.out.rd).mono ?_
    rintro e w2 ⟨rfl, ho2, hr2⟩
    cases hq : rdB (bl s) (skip (bl s) m') mark with
    | false =>
      have HF : Hid (yN kp f (bl s) least (bl ps) 0 40 m nd = (skip (bl s) m', none)) := by
       show _ = _
       rw [HE.out, hdr.out, parts_step, mark_no hq]; rfl
      rw [hq] at hr2
      have HJ2 := Lib.hid (HJ.out.only hRP hPl ho2 hr2)
      clear hq ho2 hr2
      go_wp2_with (fail)
      refine bodyPost_ret (v := .bool false) (by simp [results, Tryz.results133, go_sem]) rfl ?_
      rw [HF.out]
      exact pout_bad HKV.out HJ2.out
    | true =>
      rw [hq] at hr2
      have HJ2 := Lib.hid (HJ.out.only hRP hPl ho2 hr2)
      have HQ := Lib.hid hq
      have e0 := zG HJ2.out.box
      have e1 := zF HJ2.out.box
      have hbl2 := zC HJ2.out.box
      have hix := str_index ps i hlt (by omega)
      rw [← bl_at ps i hlt] at hix
      clear hq ho2 hr2
      go_wp2_with (fail)
      refine (HPT.out i hlt _ _ _ _ _ _ w2 (HGK.out _ (HKV.out.trans (.inl rfl) HJ2.out.kv)) HJ2.out.rd HJ2.out.pn (by omega)).mono ?_
      rintro e w3 ⟨he3, hk3, hr3, hx3, hn3⟩
      have HX3 := Lib.hid hx3
      clear hx3
      have HKD2 := HKD.out (lkB (bl ps) i) (nx true (skip (bl s) m')) nd'
      have HST : Hid (yN kp f (bl s) least (bl ps) 0 40 m nd = bindP (partR kp f (bl s) (lkB (bl ps) i) (nx true (skip (bl s) m')) nd') fun m2 nd' =>
          if least ≤ i + 1 then (match markR (bl s) m2 41 with
           | (m3, some _) => (m3, some nd')
           | (m3, none) => yN kp f (bl s) least ((bl ps).drop (i + 1)) (i + 1) 44 m3 nd')
          else yN kp f (bl s) least ((bl ps).drop (i + 1)) (i + 1) 44 m2 nd') := by
       show _ = _
       rw [HE.out, hdr.out, parts_step, mark_yes HQ.out]; rfl
      revert HST he3 hr3 hn3 HKD2
      generalize partR kp f (bl s) (lkB (bl ps) i) (nx true (skip (bl s) m')) nd' = pp
      match pp with
      | (m3, none) =>
        intro he3 hr3 hn3 HKD2 HST
        have HF : Hid (yN kp f (bl s) least (bl ps) 0 40 m nd = (m3, none)) := HST
        have he : e = .returned (.bool false) := he3
        subst he
        have HK3 := Lib.hid hk3
        have HR3 := Lib.hid hr3
        clear hk3 hr3 hn3 HKD2 HST e0 e1 hix
        go_wp2_with (fail)
        refine bodyPost_ret (v := .bool false) (by simp [results, Tryz.results133, go_sem]) rfl ?_
        rw [HF.out]
        exact ⟨rfl, HKV.out.trans (.inl rfl) (HJ2.out.kv.trans HJ2.out.own HK3.out), HR3.out, HX3.out, fun _ hh => by cases hh⟩
      | (m3, some nd2) =>
        intro he3 hr3 hn3 HKD2 HST
        have he : e = .returned (.bool true) := he3
        subst he
        obtain ⟨A2, c2, vs2, cs2, hn2, hw2⟩ := hn3 nd2 rfl
        have hkl2 := HKD2 m3 nd2 rfl
        have HJ3 := Lib.hid (HJ2.out.part hRP hPl (by omega) HV.out hk3 hr3 hn2 hw2)
        clear hk3 hr3 hn3 HKD2 e0 e1 hix hn2 hw2 he3
        have e0 := zG HJ3.out.box
        have e1 := zF HJ3.out.box
        have hbl3 := zC HJ3.out.box
        by_cases hl : least ≤ i + 1
        · have HST2 : Hid (yN kp f (bl s) least (bl ps) 0 40 m nd = (match markR (bl s) m3 41 with
            | (m3, some _) => (m3, some nd2)
            | (m3, none) => yN kp f (bl s) least ((bl ps).drop (i + 1)) (i + 1) 44 m3 nd2)) := by
            show _ = _
            rw [HST.out]
            show (if least ≤ i + 1 then _ else _) = _
            rw [if_pos hl]
          have hl2 : (least : Int) ≤ (i : Int) + 1 := by omega
          clear HST
          go_wp2_with (fail)
          have hm4 := readMark_any R s m3 41 w3 (by decide) HJ3.out.rd
          rw [show (((41 : UInt8).toNat : Nat) : Int) = 41 by decide] at hm4
          refine hm4.mono ?_
          rintro e w4 ⟨rfl, ho4, hr4⟩
          clear hm4
          cases hq : rdB (bl s) (skip (bl s) m3) 41 with
          | true =>
            have HF : Hid (yN kp f (bl s) least (bl ps) 0 40 m nd = (skip (bl s) m3 + 1, some nd2)) := by
             show _ = _
             rw [HST2.out, mark_yes hq]
            rw [hq] at hr4
            have HJ4 := Lib.hid (HJ3.out.only hRP hPl ho4 hr4)
            clear hq ho4 hr4 HST2 e0 e1
            go_wp2_with (fail)
            refine bodyPost_ret (v := .bool true) (by simp [results, Tryz.results133, go_sem]) rfl ?_
            rw [HF.out]
            exact pout_ok HKV.out HJ4.out
          | false =>
            have HF : Hid (yN kp f (bl s) least (bl ps) 0 40 m nd = yN kp f (bl s) least ((bl ps).drop (i + 1)) (i + 1) 44 (skip (bl s) m3) nd2) := by
             show _ = _
             rw [HST2.out, mark_no hq]
            rw [hq] at hr4
            have HJ4 := Lib.hid (HJ3.out.only hRP hPl ho4 hr4)
            clear hq ho4 hr4 HST2 e0 e1
            go_wp2_with (fail)
            go_roundw
            case rel => exact ⟨i + 1, 44, skip (bl s) m3, nd2, A2, c2, vs2, cs2, rfl, by simp, by omega, Lib.hid (by decide), by omega, HF, HJ4⟩
            case measure =>
             simp only [intOf]
             omega
        · have HF : Hid (yN kp f (bl s) least (bl ps) 0 40 m nd = yN kp f (bl s) least ((bl ps).drop (i + 1)) (i + 1) 44 m3 nd2) := by
            show _ = _
            rw [HST.out]
            show (if least ≤ i + 1 then _ else _) = _
            rw [if_neg hl]
          have hl2 : ¬ ((least : Int) ≤ (i : Int) + 1) := by omega
          clear HST
          go_wp2_with (fail)
          go_roundw
          case rel => exact ⟨i + 1, 44, m3, nd2, A2, c2, vs2, cs2, rfl, by simp, by omega, Lib.hid (by decide), by omega, HF, HJ3⟩
          case measure =>
           simp only [intOf]
           omega
  · have hlt2 : ¬ ((i : Int) < (ps.size : Int)) := by omega
    have hie : (bl ps).drop i = [] := List.drop_eq_nil_of_le (by omega)
    have HF : Hid (yN kp f (bl s) least (bl ps) 0 40 m nd = (m', none)) := by
     show _ = _
     rw [HE.out, hie]; rfl
    clear hie
    go_wp2_with (fail)
    refine bodyPost_ret (v := .bool false) (by simp [results, Tryz.results133, go_sem]) rfl ?_
    rw [HF.out]
    exact pout_bad HKV.out HJ.out
end Go.Proofs.YtaecndmncpfpfaaGreatDoor
namespace Go.Proofs.YtaecndmncpfpfaaGreatDoor
open Go.RowKit
theorem PnI.nd {w : World} {P d c : Nat} {nd : Nd} {A : Option Addr} {vs : Value} {cs : List Value} (h : PnI w P d nd A c vs cs) :
    NdAt w (fun b => P < b) (d + 1) (.agg #[.string ⟨nd.op.toArray⟩, .int .i64 nd.int, .string ⟨nd.text.toArray⟩, .int .i64 nd.ty.kind, .slice A nd.ty.args.length c, vs]) nd := by
 have hcs : cs.length = nd.kids.length * 6 := h.own.1
 obtain ⟨dt, ht⟩ := h.ty
 have hty : ∃ dt, TyAt w (fun b => P < b) dt (.agg #[.int .i64 nd.ty.kind, .slice A nd.ty.args.length c]) nd.ty := ⟨dt, TyAt.move (fun b hb _ => ⟨hb.1, fun _ => rfl⟩) dt _ _ ht⟩
 rcases h.own.2 with ⟨hv, hn⟩ | ⟨g, cap, cur, hv, hb, hg, hn, hm, hsz, htk⟩
 · subst hv
   refine ⟨A, c, none, 0, ?_, hty, by omega, fun hl => absurd hl (by omega)⟩
   rw [hn]
 · subst hv
   refine ⟨A, c, some ⟨g, 0, none⟩, cap, rfl, hty, by omega, fun hl => ⟨g, 0, rfl, by omega, fun j a ha => ?_⟩⟩
   obtain ⟨u0, u1, u2, u3, u4, u5, e0, e1, e2, e3, e4, e5, hx⟩ := h.args j a ha
   have hc : ∀ k u, cs[k]? = some u → w.cell? ⟨g, k, none⟩ = some u := fun k u hu => by
    have hk : k < cs.length := by
     rcases Nat.lt_or_ge k cs.length with h1 | h1
     · exact h1
     · rw [List.getElem?_eq_none h1] at hu; cases hu
    rw [h.own.cellAt k (by omega), hu]
   simp only [Nat.zero_add]
   exact ⟨u0, u1, u2, u3, u4, u5, hc _ _ e0, hc _ _ e1, hc _ _ e2, hc _ _ e3, hc _ _ e4, hc _ _ e5, NdAt.move (fun b hb _ => ⟨hb.1, fun _ => rfl⟩) d _ _ hx⟩
def wordR (kp : List UInt8 → Nat × Option Ty) (l : List UInt8) (r m : Nat) : Nat × Option Nd := match wdP (spel l m) with
 | none => (m + (spel l m).length, some (nameN (spel l m)))
 | some (p, least) => if hasB p 101 && decide (r = 0) then (m + (spel l m).length, none)
   else if p = [] then (m + (spel l m).length, some (.mk (spel l m) 0 [] ty0 []))
   else yN kp (exprR kp l r) l least p 0 40 (m + (spel l m).length) (.mk (spel l m) 0 [] ty0 [])
theorem wd_ok : (wdL.all fun x => x.2.all (fun b => decide (b = 100) || decide (b = 101) || decide (b = 110) || decide (b = 116)) && decide (x.2.length ≤ 64)) = true := by decide +kernel
theorem wdP_ok {t p : List UInt8} {least : Nat} (h : wdP t = some (p, least)) : p.length ≤ 64 ∧ least ≤ 64 ∧ ∀ b ∈ p, b = 100 ∨ b = 101 ∨ b = 110 ∨ b = 116 := by
 unfold wdP at h
 by_cases hl : t = listW
 · rw [if_pos hl] at h
   injection h with h
   injection h with h1 h2
   subst h1
   subst h2
   exact ⟨by simp, by omega, fun b hb => .inr (.inl (List.eq_of_mem_replicate hb))⟩
 · rw [if_neg hl] at h
   cases hf : wdL.find? (fun x => decide (x.1 = t)) with
   | none => rw [hf] at h; cases h
   | some x =>
     rw [hf] at h
     injection h with h
     injection h with h1 h2
     have hx := List.all_eq_true.1 wd_ok x (List.mem_of_find?_eq_some hf)
     simp only [Bool.and_eq_true, decide_eq_true_eq] at hx
     subst h1
     subst h2
     refine ⟨hx.2, hx.2, fun b hb => ?_⟩
     have := List.all_eq_true.1 hx.1 b hb
     simp only [Bool.or_eq_true, decide_eq_true_eq] at this
     rcases this with ((h | h) | h) | h
     · exact .inl h
     · exact .inr (.inl h)
     · exact .inr (.inr (.inl h))
     · exact .inr (.inr (.inr h))
theorem kids_one (kp : List UInt8 → Nat × Option Ty) (f : Nat → Nat × Option Nd) (l : List UInt8) (p : UInt8) (m : Nat) (nd : Nd) (m' : Nat) (nd' : Nd) (h : partR kp f l p m nd = (m', some nd')) : nd'.kids.length ≤ nd.kids.length + 1 := by
 unfold partR at h
 have key : ∀ {α : Type} (q : Nat × Option α) (g : α → Nd) , (bindP q fun m' x => (m', some (g x))) = (m', some nd') → ∃ x, nd' = g x := fun q g hq => by
  match q, hq with
  | (k, none), hq => cases hq
  | (k, some x), hq => cases hq; exact ⟨x, rfl⟩
 by_cases h1 : p = 100
 · rw [if_pos h1] at h; obtain ⟨x, rfl⟩ := key _ _ h; simp [Nd.kids]
 · rw [if_neg h1] at h
   by_cases h2 : p = 116
   · rw [if_pos h2] at h; obtain ⟨x, rfl⟩ := key _ _ h; simp [Nd.kids]
   · rw [if_neg h2] at h
     by_cases h3 : p = 110
     · rw [if_pos h3] at h; obtain ⟨x, rfl⟩ := key _ _ h; simp [Nd.kids]
     · rw [if_neg h3] at h; obtain ⟨x, rfl⟩ := key _ _ h; simp [Nd.kids]
