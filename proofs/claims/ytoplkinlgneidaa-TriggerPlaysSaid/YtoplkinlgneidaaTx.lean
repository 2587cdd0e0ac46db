/-
One step of the law: a call, of the machine and of the document's answer.
-/
import Derived.Test.YtoplkinlgneidaaTw
set_option linter.unusedVariables false
namespace Go.Proofs.Ytoplkinlgneidaa
open Go.RowKit

theorem OnlyR.below {x B : Nat} {v : Value} {a b : World} (h : OnlyR x v a b) (hx : B ≤ x) (hv : ∀ k, v.ownBlock = some k → B ≤ k) (hB : B ≤ a.heap.size) : Below B a b :=
  ⟨h.os, h.tape, h.output, h.size, fun k hk => h.block k (by omega) (by omega) (fun e => by have := hv k e; omega)⟩

theorem Xc.other {w w' : World} {x B R S : Nat} {E L T : Int} {a : Bool} {dv : Value} {d : List Inf} {fr : Int} {p c : Bool} (h : Xc w x B E L T a dv d fr p c) (ho : Only2 R S w w') (h1 : x ≠ R) (h2 : x ≠ S) (h3 : R < B) (h4 : S < B) : Xc w' x B E L T a dv d fr p c :=
  h.kept fun k hk => ho.block k (h.rlt hk) (by rcases hk with rfl | hk; exact h1; have := (h.row.lt k hk).1; omega) (by rcases hk with rfl | hk; exact h2; have := (h.row.lt k hk).1; omega)

theorem Mc.other {w w' : World} {m g x B : Nat} {E L T : Int} {a : Bool} {n s fr : Int} {p c : Bool} {dv : Value} {xs : List Value} {e size k : Nat} (h : Mc w m g E L T a n s fr p c) (ho : OnlyR x dv w w') (hr : w.ownsRow B e size dv k xs) (h1 : m ≠ x) (h2 : g ≠ x) (h3 : m < B) (h4 : g < B) : Mc w' m g E L T a n s fr p c :=
  ⟨h.ne, ho.at h.cells h1 (fun e => by have := (hr.lt m e).1; omega), ho.at h.line h2 (fun e => by have := (hr.lt g e).1; omega)⟩

theorem Told.other {Ba : Nat} {w w' : World} {V : Value} {o : Option Inf} (h : Told Ba w V o) (hk : ∀ b, Ba ≤ b → b < w.heap.size → w'.heap[b]? = w.heap[b]?) : Told Ba w' V o := by
  cases o with
  | none => exact h
  | some x => obtain ⟨b, hV, h1, h2⟩ := h; exact ⟨b, hV, h1, (hk b h1 (cell_lt h2)).trans h2⟩

theorem ToldR.other {Ba : Nat} {w w' : World} {V : Value} {o : Option Inf} (h : ToldR Ba w V o) (hk : ∀ b, Ba ≤ b → b < w.heap.size → w'.heap[b]? = w.heap[b]?) : ToldR Ba w' V o := by
  cases o with
  | none => exact h
  | some x => obtain ⟨b, hV, h1, h2⟩ := h; exact ⟨b, hV, h1, (hk b h1 (cell_lt h2)).trans h2⟩

theorem rstage_b (S : Nat → Prop) (v : Value) (l : List Inf) (w : World) (h : IsAt w S v l) (hl : l.length ≤ 4611686018427387900) (hg : GdL l) :
    Calls Try.prog 26 #[v] w fun e w' => e = .returned (.int .i64 (stgL l)) ∧ Below w.heap.size w w' :=
  (rstage_any S v l w h hl hg).mono fun e w' ⟨he, hw⟩ => ⟨he, by rw [hw]; exact Below.refl _ _⟩

/-- What a step leaves. -/
def StepOut (m g x B : Nat) (E L T : Int) (a : Bool) (d : List Inf) (fr : Int) (w : World) (e : Ending) (w' : World) : Prop :=
  e = .returned (.bool true) ∧ ∃ (d' : List Inf) (fr' : Int) (p' c' : Bool) (dv' : Value), Inv d' fr' p' c' ∧ Mc w' m g E L T a d'.length (stgL d') fr' p' c' ∧ Xc w' x B E L T a dv' d' fr' p' c' ∧ d'.length ≤ d.length + 1 ∧ fr' ≤ fr + 2000 ∧ ∀ B0, B0 ≤ m → B0 ≤ g → B0 ≤ x → Below B0 w w'

set_option maxRecDepth 100000 in
set_option maxHeartbeats 8000000 in
theorem step_any (m g x B : Nat) (E L T : Int) (a : Bool) (dv : Value) (d : List Inf) (fr : Int) (p c : Bool) (k q : Int) (old : Bool) (w : World) (hM : Mc w m g E L T a d.length (stgL d) fr p c) (hX : Xc w x B E L T a dv d fr p c) (hI : Inv d fr p c) (hs : SpecOk E L T) (hmB : m < B) (hgB : g < B) (hne : x ≠ m ∧ x ≠ g) (hBs : B ≤ w.heap.size) (hd : (d.length + 1) * 24 ≤ 140737488355328) (hfr : fr ≤ 4611686018427380000) :
    Calls Try.prog 12 #[.pointer (some ⟨m, 0, none⟩), .pointer (some ⟨x, 0, none⟩), .agg #[.int .i64 E, .int .i64 L, .int .i64 T, .bool a], .agg #[.int .i64 k, .int .i64 q, .bool old]] w (StepOut m g x B E L T a d fr w) := by
  have HI := Lib.hid hI
  have HNE := Lib.hid hne
  have HSP := Lib.hid hs
  have HMw := Lib.hid hM
  have HXw := Lib.hid hX
  clear hI hne hs hM hX
  go_enter Try.func12, Try.ntmps12
  go_upto_region 4 with (fail)
  have hsb : ((w.alloc (.cells #[.int .i64 E, .int .i64 L, .int .i64 T, .bool a] 23)).alloc (.cells #[.int .i64 k, .int .i64 q, .bool old] 38)).heap[w.heap.size]? = some (.cells #[.int .i64 E, .int .i64 L, .int .i64 T, .bool a] 23 (0, 0)) := heap_alloc_some (heap_alloc_new w _)
  have hob : ((w.alloc (.cells #[.int .i64 E, .int .i64 L, .int .i64 T, .bool a] 23)).alloc (.cells #[.int .i64 k, .int .i64 q, .bool old] 38)).heap[w.heap.size + 1]? = some (.cells #[.int .i64 k, .int .i64 q, .bool old] 38 (0, 0)) := heap_new_at (by simp)
  have hbel : Below w.heap.size w ((w.alloc (.cells #[.int .i64 E, .int .i64 L, .int .i64 T, .bool a] 23)).alloc (.cells #[.int .i64 k, .int .i64 q, .bool old] 38)) := ((Below.refl _ w).alloc (Nat.le_refl _) _).alloc (by simp) _
  generalize (w.alloc (.cells #[.int .i64 E, .int .i64 L, .int .i64 T, .bool a] 23)).alloc (.cells #[.int .i64 k, .int .i64 q, .bool old] 38) = WA at hsb hob hbel ⊢
  have hBA : B ≤ WA.heap.size := Nat.le_trans hBs hbel.size
  have HM0 := Lib.hid (HMw.out.low hbel (cell_lt HMw.out.cells) (cell_lt HMw.out.line))
  have HX0 := Lib.hid (HXw.out.below hbel)
  have HFA : Hid (∀ B0, B0 ≤ m → B0 ≤ g → B0 ≤ x → Below B0 w WA) := Lib.hid fun B0 h1 _ _ => hbel.mono (by have := cell_lt HMw.out.cells; omega)
  have hobm : w.heap.size + 1 ≠ m := by omega
  have hobg : w.heap.size + 1 ≠ g := by omega
  have HOB := Lib.hid hob
  have HSB := Lib.hid hsb
  have y0 := cell3_0 hob
  have y1 := cell3_1 hob
  have y2 := cell3_2 hob
  have hol := cell_lt hob
  obtain ⟨z0, z1, z2, z3⟩ := spec_cells hsb
  have hsl := cell_lt hsb
  have hlow := HI.out.low
  clear hsb hob hbel HMw HXw
  by_cases hk1 : k = 1
  case pos =>
    subst hk1
    have HC := Lib.hid (padd_any m g E L T a d fr p c q WA HM0.out HI.out (by omega) (by omega))
    have HI2 := Lib.hid (HI.out.add E L q)
    have hf2 := add_fresh E L d.length fr p c q HI.out.low
    have HRC := fun (w2 : World) (hX : Xc w2 x B E L T a dv d fr p c) (hs : B ≤ w2.heap.size) => Lib.hid (radd_any x B E L T a dv d fr p c q w2 hX hs hd HSP.out.1.1 HSP.out.2.1.1 HI.out.low (by omega))
    generalize addP E L d.length fr p c q = r at HC HI2 hf2 HRC
    obtain ⟨o', code, fr', p', c'⟩ := r
    have hda := after_len d (o', code, fr', p', c')
    go_upto_region 27 with (first
      | (go_at_call 14; (with_reducible refine HC.out.mono ?_); rintro e w2 ⟨V, rfl, hT, hM, hO⟩; have HT := Lib.hid hT; have HM := Lib.hid hM; have HO := Lib.hid hO; have hX2 := HX0.out.other hO HNE.out.1 HNE.out.2 hmB hgB; have HX2 := Lib.hid hX2; have HR := Lib.hid (HRC w2 hX2 (Nat.le_trans hBA hO.size)).out; have ho2 := hO.at HOB.out hobm hobg; have y0 := cell3_0 ho2; have y1 := cell3_1 ho2; have hol := cell_lt ho2; clear hT hM hO hX2 ho2)
      | (go_at_call 21; (with_reducible refine HR.out.mono ?_); rintro e W3 ⟨V', dv', rfl, hT, hX, hO⟩; have HR3 := Lib.hid hT; have HX3 := Lib.hid hX; have HO3 := Lib.hid hO; clear hT hX hO))
    obtain ⟨Ba, hBa⟩ : ∃ n, n = WA.heap.size := ⟨_, rfl⟩
    have HT3 : Hid (Told Ba W3 V o') := Lib.hid (by
      subst hBa
      exact HT.out.other fun b h1 h2 => HO3.out.block b h2 (by have := HX0.out.rlt (.inl rfl); omega) (fun e => by have := HX0.out.rlt (.inr e); omega))
    clear hBa
    have HM3 := Lib.hid (HM.out.other HO3.out HX2.out.row (fun e => HNE.out.1 e.symm) (fun e => HNE.out.2 e.symm) hmB hgB)
    have HF3 : Hid (∀ B0, B0 ≤ m → B0 ≤ g → B0 ≤ x → Below B0 w W3) := Lib.hid fun B0 h1 h2 h3 => by
      have hf := HFA.out B0 h1 h2 h3
      have hf2 := hf.trans (HO.out.below h1 h2 (by have := hf.size; omega))
      exact hf2.trans (HO3.out.below h3 (fun k e => by have := (HX2.out.row.lt k e).1; have := HX2.out.lt; omega) (by have := hf2.size; omega))
    have hfl : fr' ≤ fr + 2000 := by first | omega | (dsimp only at hf2; omega)
    have hdl : (after d (o', code, fr', p', c')).length ≤ d.length + 1 := hda
    have HI3 : Hid (Inv (after d (o', code, fr', p', c')) fr' p' c') := HI2
    have HM3 : Hid (Mc W3 m g E L T a (after d (o', code, fr', p', c')).length (stgL (after d (o', code, fr', p', c'))) fr' p' c') := HM3
    have HX3 : Hid (Xc W3 x B E L T a dv' (after d (o', code, fr', p', c')) fr' p' c') := HX3
    have HR3 : Hid (ToldR _ W3 V' o') := HR3
    generalize after d (o', code, fr', p', c') = d' at hdl HI3 HM3 HX3 hda
    have HS := Lib.hid (state_any m g E L T a d'.length (stgL d') fr' p' c' W3 HM3.out)
    generalize w2.heap.size = Bb at HR3
    clear HC HI2 HRC HT HM HO HX2 HR HO3 hf2 hda
    go_upto_region 28 with (go_at_call 18; (with_reducible refine HS.out.mono ?_); rintro e w4 ⟨rfl, hb⟩; have HB4 := Lib.hid hb; clear hb)
    have hz4 := HB4.out.size
    have hbx : (w4.alloc (.cells #[.int .i64 (d'.length : Int), .int .i64 (stgL d'), .int .i64 fr', .bool p', .bool c'] 51)).heap[w4.heap.size]? = some (.cells #[.int .i64 (d'.length : Int), .int .i64 (stgL d'), .int .i64 fr', .bool p', .bool c'] 51 (0, 0)) := heap_alloc_new w4 _
    have HB5 : Hid (Below W3.heap.size W3 (w4.alloc (.cells #[.int .i64 (d'.length : Int), .int .i64 (stgL d'), .int .i64 fr', .bool p', .bool c'] 51))) := Lib.hid (HB4.out.alloc hz4 _)
    generalize w4.alloc (.cells #[.int .i64 (d'.length : Int), .int .i64 (stgL d'), .int .i64 fr', .bool p', .bool c'] 51) = W5 at hbx HB5 ⊢
    generalize w4.heap.size = TBX at hbx ⊢
    obtain ⟨A', cp', rfl⟩ := HX3.out.slice
    have HX5 := Lib.hid (HX3.out.below HB5.out)
    have hbl := cell_lt hbx
    have g0 := Wb.cell (cells_at hbx 0 _ rfl) hbl
    have g1 := Wb.cell (cells_at hbx 1 _ rfl) hbl
    have g2 := Wb.cell (cells_at hbx 2 _ rfl) hbl
    have g3 := Wb.cell (cells_at hbx 3 _ rfl) hbl
    have g4 := Wb.cell (cells_at hbx 4 _ rfl) hbl
    have hxl := cell_lt HX5.out.cells
    have k4 := Wb.cell (cells_at HX5.out.cells 4 (.slice A' d'.length cp') rfl) hxl
    have k5 := Wb.cell (cells_at HX5.out.cells 5 (.int .i64 fr') rfl) hxl
    have k6 := Wb.cell (cells_at HX5.out.cells 6 (.bool p') rfl) hxl
    have k7 := Wb.cell (cells_at HX5.out.cells 7 (.bool c') rfl) hxl
    have HTB : Hid (Told Ba W5 V o') := Lib.hid (HT3.out.other fun b _ hb => HB5.out.block b hb)
    have HTR : Hid (ToldR Bb W5 V' o') := Lib.hid (HR3.out.other fun b _ hb => HB5.out.block b hb)
    have HSA := fun (q : Wb W5) => Lib.hid (same_any Ba Bb V V' o' q.w (HTB.out.other fun b _ hb => q.h.block b hb) (HTR.out.other fun b _ hb => q.h.block b hb))
    have HRS := fun (q : Wb W5) => Lib.hid (rstage_b (fun b => B ≤ b) (.slice A' d'.length cp') d' q.w ((IsAt.own HX5.out.row).below q.h) (by have := hdl; omega) HI3.out.gd)
    have hgs := fun w' => Try.guardS .eql w'
    have hes : ∀ w', (binOp .eql 51 (.agg #[.int .i64 (d'.length : Int), .int .i64 (stgL d'), .int .i64 fr', .bool p', .bool c']) (.agg #[.int .i64 (d'.length : Int), .int .i64 (stgL d'), .int .i64 fr', .bool p', .bool c'])).run Try.prog w' = .ok (.bool true) w' := fun w' => by rw [Try.eqlS]; simp
    clear hbx
    refine wp_region_quiet_below (by kernel_rfl) (by kernel_rfl) ?_
    repeat (go_big_quiet_step (first | (go_at_call 25; exact Wb.call (HSA _).out) | (go_at_call 26; exact Wb.call (HRS _).out)))
    refine wpQuiet_nil ?_
    rintro wd ⟨⟨_, HBc⟩, rfl⟩
    go_wp2_with (fail)
    go_ret
    have hBc := HB5.out.trans (HBc.mono HB5.out.size)
    exact ⟨rfl, d', fr', p', c', _, HI3.out, HM3.out.low hBc (cell_lt HM3.out.cells) (cell_lt HM3.out.line), HX3.out.below hBc, hdl, hfl, fun B0 h1 h2 h3 => by have hf := HF3.out B0 h1 h2 h3; exact hf.trans (hBc.mono (by have := hf.size; omega))⟩
  have e1 : (k == 1) = false := by simp [hk1]
  by_cases hk2 : k = 2
  case pos =>
    subst hk2
    have HC := Lib.hid (ppass_any m g E L T a d fr p c WA HM0.out HI.out (by omega))
    have HI2 := Lib.hid (HI.out.pass T)
    have hf2 := pass_fresh T d.length fr p c HI.out.low
    have HRC := fun (w2 : World) (hX : Xc w2 x B E L T a dv d fr p c) (hs : B ≤ w2.heap.size) => Lib.hid (rpass_any x B E L T a dv d fr p c w2 hX hs hd (fun e => (HI.out.early e).2))
    generalize passP T d.length fr p c = r at HC HI2 hf2 HRC
    obtain ⟨o', code, fr', p', c'⟩ := r
    have hda := after_len d (o', code, fr', p', c')
    go_upto_region 27 with (first
      | (go_at_call 15; (with_reducible refine HC.out.mono ?_); rintro e w2 ⟨V, rfl, hT, hM, hO⟩; have HT := Lib.hid hT; have HM := Lib.hid hM; have HO := Lib.hid hO; have hX2 := HX0.out.other hO HNE.out.1 HNE.out.2 hmB hgB; have HX2 := Lib.hid hX2; have HR := Lib.hid (HRC w2 hX2 (Nat.le_trans hBA hO.size)).out; have ho2 := hO.at HOB.out hobm hobg; have y0 := cell3_0 ho2; have y1 := cell3_1 ho2; have hol := cell_lt ho2; clear hT hM hO hX2 ho2)
      | (go_at_call 22; (with_reducible refine HR.out.mono ?_); rintro e W3 ⟨V', dv', rfl, hT, hX, hO⟩; have HR3 := Lib.hid hT; have HX3 := Lib.hid hX; have HO3 := Lib.hid hO; clear hT hX hO))
    obtain ⟨Ba, hBa⟩ : ∃ n, n = WA.heap.size := ⟨_, rfl⟩
    have HT3 : Hid (Told Ba W3 V o') := Lib.hid (by
      subst hBa
      exact HT.out.other fun b h1 h2 => HO3.out.block b h2 (by have := HX0.out.rlt (.inl rfl); omega) (fun e => by have := HX0.out.rlt (.inr e); omega))
    clear hBa
    have HM3 := Lib.hid (HM.out.other HO3.out HX2.out.row (fun e => HNE.out.1 e.symm) (fun e => HNE.out.2 e.symm) hmB hgB)
    have HF3 : Hid (∀ B0, B0 ≤ m → B0 ≤ g → B0 ≤ x → Below B0 w W3) := Lib.hid fun B0 h1 h2 h3 => by
      have hf := HFA.out B0 h1 h2 h3
      have hf2 := hf.trans (HO.out.below h1 h2 (by have := hf.size; omega))
      exact hf2.trans (HO3.out.below h3 (fun k e => by have := (HX2.out.row.lt k e).1; have := HX2.out.lt; omega) (by have := hf2.size; omega))
    have hfl : fr' ≤ fr + 2000 := by first | omega | (dsimp only at hf2; omega)
    have hdl : (after d (o', code, fr', p', c')).length ≤ d.length + 1 := hda
    have HI3 : Hid (Inv (after d (o', code, fr', p', c')) fr' p' c') := HI2
    have HM3 : Hid (Mc W3 m g E L T a (after d (o', code, fr', p', c')).length (stgL (after d (o', code, fr', p', c'))) fr' p' c') := HM3
    have HX3 : Hid (Xc W3 x B E L T a dv' (after d (o', code, fr', p', c')) fr' p' c') := HX3
    have HR3 : Hid (ToldR _ W3 V' o') := HR3
    generalize after d (o', code, fr', p', c') = d' at hdl HI3 HM3 HX3 hda
    have HS := Lib.hid (state_any m g E L T a d'.length (stgL d') fr' p' c' W3 HM3.out)
    generalize w2.heap.size = Bb at HR3
    clear HC HI2 HRC HT HM HO HX2 HR HO3 hf2 hda
    go_upto_region 28 with (go_at_call 18; (with_reducible refine HS.out.mono ?_); rintro e w4 ⟨rfl, hb⟩; have HB4 := Lib.hid hb; clear hb)
    have hz4 := HB4.out.size
    have hbx : (w4.alloc (.cells #[.int .i64 (d'.length : Int), .int .i64 (stgL d'), .int .i64 fr', .bool p', .bool c'] 51)).heap[w4.heap.size]? = some (.cells #[.int .i64 (d'.length : Int), .int .i64 (stgL d'), .int .i64 fr', .bool p', .bool c'] 51 (0, 0)) := heap_alloc_new w4 _
    have HB5 : Hid (Below W3.heap.size W3 (w4.alloc (.cells #[.int .i64 (d'.length : Int), .int .i64 (stgL d'), .int .i64 fr', .bool p', .bool c'] 51))) := Lib.hid (HB4.out.alloc hz4 _)
    generalize w4.alloc (.cells #[.int .i64 (d'.length : Int), .int .i64 (stgL d'), .int .i64 fr', .bool p', .bool c'] 51) = W5 at hbx HB5 ⊢
    generalize w4.heap.size = TBX at hbx ⊢
    obtain ⟨A', cp', rfl⟩ := HX3.out.slice
    have HX5 := Lib.hid (HX3.out.below HB5.out)
    have hbl := cell_lt hbx
    have g0 := Wb.cell (cells_at hbx 0 _ rfl) hbl
    have g1 := Wb.cell (cells_at hbx 1 _ rfl) hbl
    have g2 := Wb.cell (cells_at hbx 2 _ rfl) hbl
    have g3 := Wb.cell (cells_at hbx 3 _ rfl) hbl
    have g4 := Wb.cell (cells_at hbx 4 _ rfl) hbl
    have hxl := cell_lt HX5.out.cells
    have k4 := Wb.cell (cells_at HX5.out.cells 4 (.slice A' d'.length cp') rfl) hxl
    have k5 := Wb.cell (cells_at HX5.out.cells 5 (.int .i64 fr') rfl) hxl
    have k6 := Wb.cell (cells_at HX5.out.cells 6 (.bool p') rfl) hxl
    have k7 := Wb.cell (cells_at HX5.out.cells 7 (.bool c') rfl) hxl
    have HTB : Hid (Told Ba W5 V o') := Lib.hid (HT3.out.other fun b _ hb => HB5.out.block b hb)
    have HTR : Hid (ToldR Bb W5 V' o') := Lib.hid (HR3.out.other fun b _ hb => HB5.out.block b hb)
    have HSA := fun (q : Wb W5) => Lib.hid (same_any Ba Bb V V' o' q.w (HTB.out.other fun b _ hb => q.h.block b hb) (HTR.out.other fun b _ hb => q.h.block b hb))
    have HRS := fun (q : Wb W5) => Lib.hid (rstage_b (fun b => B ≤ b) (.slice A' d'.length cp') d' q.w ((IsAt.own HX5.out.row).below q.h) (by have := hdl; omega) HI3.out.gd)
    have hgs := fun w' => Try.guardS .eql w'
    have hes : ∀ w', (binOp .eql 51 (.agg #[.int .i64 (d'.length : Int), .int .i64 (stgL d'), .int .i64 fr', .bool p', .bool c']) (.agg #[.int .i64 (d'.length : Int), .int .i64 (stgL d'), .int .i64 fr', .bool p', .bool c'])).run Try.prog w' = .ok (.bool true) w' := fun w' => by rw [Try.eqlS]; simp
    clear hbx
    refine wp_region_quiet_below (by kernel_rfl) (by kernel_rfl) ?_
    repeat (go_big_quiet_step (first | (go_at_call 25; exact Wb.call (HSA _).out) | (go_at_call 26; exact Wb.call (HRS _).out)))
    refine wpQuiet_nil ?_
    rintro wd ⟨⟨_, HBc⟩, rfl⟩
    go_wp2_with (fail)
    go_ret
    have hBc := HB5.out.trans (HBc.mono HB5.out.size)
    exact ⟨rfl, d', fr', p', c', _, HI3.out, HM3.out.low hBc (cell_lt HM3.out.cells) (cell_lt HM3.out.line), HX3.out.below hBc, hdl, hfl, fun B0 h1 h2 h3 => by have hf := HF3.out B0 h1 h2 h3; exact hf.trans (hBc.mono (by have := hf.size; omega))⟩
  have e2 : (k == 2) = false := by simp [hk2]
  by_cases hk3 : k = 3
  case pos =>
    subst hk3
    have HC := Lib.hid (pclose_any m g E L T a d fr p c WA HM0.out HI.out (by omega))
    have HI2 := Lib.hid (HI.out.close)
    have hf2 := close_fresh d.length fr p c HI.out.low
    have HRC := fun (w2 : World) (hX : Xc w2 x B E L T a dv d fr p c) (hs : B ≤ w2.heap.size) => Lib.hid (rclose_any x B E L T a dv d fr p c w2 hX hs hd HI.out.low)
    generalize closeP d.length fr p c = r at HC HI2 hf2 HRC
    obtain ⟨o', code, fr', p', c'⟩ := r
    have hda := after_len d (o', code, fr', p', c')
    go_upto_region 27 with (first
      | (go_at_call 16; (with_reducible refine HC.out.mono ?_); rintro e w2 ⟨V, rfl, hT, hM, hO⟩; have HT := Lib.hid hT; have HM := Lib.hid hM; have HO := Lib.hid hO; have hX2 := HX0.out.other hO HNE.out.1 HNE.out.2 hmB hgB; have HX2 := Lib.hid hX2; have HR := Lib.hid (HRC w2 hX2 (Nat.le_trans hBA hO.size)).out; have ho2 := hO.at HOB.out hobm hobg; have y0 := cell3_0 ho2; have y1 := cell3_1 ho2; have hol := cell_lt ho2; clear hT hM hO hX2 ho2)
      | (go_at_call 23; (with_reducible refine HR.out.mono ?_); rintro e W3 ⟨V', dv', rfl, hT, hX, hO⟩; have HR3 := Lib.hid hT; have HX3 := Lib.hid hX; have HO3 := Lib.hid hO; clear hT hX hO))
    obtain ⟨Ba, hBa⟩ : ∃ n, n = WA.heap.size := ⟨_, rfl⟩
    have HT3 : Hid (Told Ba W3 V o') := Lib.hid (by
      subst hBa
      exact HT.out.other fun b h1 h2 => HO3.out.block b h2 (by have := HX0.out.rlt (.inl rfl); omega) (fun e => by have := HX0.out.rlt (.inr e); omega))
    clear hBa
    have HM3 := Lib.hid (HM.out.other HO3.out HX2.out.row (fun e => HNE.out.1 e.symm) (fun e => HNE.out.2 e.symm) hmB hgB)
    have HF3 : Hid (∀ B0, B0 ≤ m → B0 ≤ g → B0 ≤ x → Below B0 w W3) := Lib.hid fun B0 h1 h2 h3 => by
      have hf := HFA.out B0 h1 h2 h3
      have hf2 := hf.trans (HO.out.below h1 h2 (by have := hf.size; omega))
      exact hf2.trans (HO3.out.below h3 (fun k e => by have := (HX2.out.row.lt k e).1; have := HX2.out.lt; omega) (by have := hf2.size; omega))
    have hfl : fr' ≤ fr + 2000 := by first | omega | (dsimp only at hf2; omega)
    have hdl : (after d (o', code, fr', p', c')).length ≤ d.length + 1 := hda
    have HI3 : Hid (Inv (after d (o', code, fr', p', c')) fr' p' c') := HI2
    have HM3 : Hid (Mc W3 m g E L T a (after d (o', code, fr', p', c')).length (stgL (after d (o', code, fr', p', c'))) fr' p' c') := HM3
    have HX3 : Hid (Xc W3 x B E L T a dv' (after d (o', code, fr', p', c')) fr' p' c') := HX3
    have HR3 : Hid (ToldR _ W3 V' o') := HR3
    generalize after d (o', code, fr', p', c') = d' at hdl HI3 HM3 HX3 hda
    have HS := Lib.hid (state_any m g E L T a d'.length (stgL d') fr' p' c' W3 HM3.out)
    generalize w2.heap.size = Bb at HR3
    clear HC HI2 HRC HT HM HO HX2 HR HO3 hf2 hda
    go_upto_region 28 with (go_at_call 18; (with_reducible refine HS.out.mono ?_); rintro e w4 ⟨rfl, hb⟩; have HB4 := Lib.hid hb; clear hb)
    have hz4 := HB4.out.size
    have hbx : (w4.alloc (.cells #[.int .i64 (d'.length : Int), .int .i64 (stgL d'), .int .i64 fr', .bool p', .bool c'] 51)).heap[w4.heap.size]? = some (.cells #[.int .i64 (d'.length : Int), .int .i64 (stgL d'), .int .i64 fr', .bool p', .bool c'] 51 (0, 0)) := heap_alloc_new w4 _
    have HB5 : Hid (Below W3.heap.size W3 (w4.alloc (.cells #[.int .i64 (d'.length : Int), .int .i64 (stgL d'), .int .i64 fr', .bool p', .bool c'] 51))) := Lib.hid (HB4.out.alloc hz4 _)
    generalize w4.alloc (.cells #[.int .i64 (d'.length : Int), .int .i64 (stgL d'), .int .i64 fr', .bool p', .bool c'] 51) = W5 at hbx HB5 ⊢
    generalize w4.heap.size = TBX at hbx ⊢
    obtain ⟨A', cp', rfl⟩ := HX3.out.slice
    have HX5 := Lib.hid (HX3.out.below HB5.out)
    have hbl := cell_lt hbx
    have g0 := Wb.cell (cells_at hbx 0 _ rfl) hbl
    have g1 := Wb.cell (cells_at hbx 1 _ rfl) hbl
    have g2 := Wb.cell (cells_at hbx 2 _ rfl) hbl
    have g3 := Wb.cell (cells_at hbx 3 _ rfl) hbl
    have g4 := Wb.cell (cells_at hbx 4 _ rfl) hbl
    have hxl := cell_lt HX5.out.cells
    have k4 := Wb.cell (cells_at HX5.out.cells 4 (.slice A' d'.length cp') rfl) hxl
    have k5 := Wb.cell (cells_at HX5.out.cells 5 (.int .i64 fr') rfl) hxl
    have k6 := Wb.cell (cells_at HX5.out.cells 6 (.bool p') rfl) hxl
    have k7 := Wb.cell (cells_at HX5.out.cells 7 (.bool c') rfl) hxl
    have HTB : Hid (Told Ba W5 V o') := Lib.hid (HT3.out.other fun b _ hb => HB5.out.block b hb)
    have HTR : Hid (ToldR Bb W5 V' o') := Lib.hid (HR3.out.other fun b _ hb => HB5.out.block b hb)
    have HSA := fun (q : Wb W5) => Lib.hid (same_any Ba Bb V V' o' q.w (HTB.out.other fun b _ hb => q.h.block b hb) (HTR.out.other fun b _ hb => q.h.block b hb))
    have HRS := fun (q : Wb W5) => Lib.hid (rstage_b (fun b => B ≤ b) (.slice A' d'.length cp') d' q.w ((IsAt.own HX5.out.row).below q.h) (by have := hdl; omega) HI3.out.gd)
    have hgs := fun w' => Try.guardS .eql w'
    have hes : ∀ w', (binOp .eql 51 (.agg #[.int .i64 (d'.length : Int), .int .i64 (stgL d'), .int .i64 fr', .bool p', .bool c']) (.agg #[.int .i64 (d'.length : Int), .int .i64 (stgL d'), .int .i64 fr', .bool p', .bool c'])).run Try.prog w' = .ok (.bool true) w' := fun w' => by rw [Try.eqlS]; simp
    clear hbx
    refine wp_region_quiet_below (by kernel_rfl) (by kernel_rfl) ?_
    repeat (go_big_quiet_step (first | (go_at_call 25; exact Wb.call (HSA _).out) | (go_at_call 26; exact Wb.call (HRS _).out)))
    refine wpQuiet_nil ?_
    rintro wd ⟨⟨_, HBc⟩, rfl⟩
    go_wp2_with (fail)
    go_ret
    have hBc := HB5.out.trans (HBc.mono HB5.out.size)
    exact ⟨rfl, d', fr', p', c', _, HI3.out, HM3.out.low hBc (cell_lt HM3.out.cells) (cell_lt HM3.out.line), HX3.out.below hBc, hdl, hfl, fun B0 h1 h2 h3 => by have hf := HF3.out B0 h1 h2 h3; exact hf.trans (hBc.mono (by have := hf.size; omega))⟩
  have e3 : (k == 3) = false := by simp [hk3]
  by_cases hk4 : k = 4
  case pos =>
    subst hk4
    have HN := Lib.hid (tnew_yes E L T a WA HSP.out)
    have hmA := cell_lt HM0.out.cells
    have hgA := cell_lt HM0.out.line
    have hxA := cell_lt HX0.out.cells
    go_upto_region 18 with (go_at_call 8; (with_reducible refine HN.out.mono ?_); rintro e W1 ⟨m1, g1, rfl, hSm, hSg, hM1, hB1⟩; have HM1 := Lib.hid hM1; have HB1 := Lib.hid hB1; have hX1 := HX0.out.below hB1; have u0 := cells_at hX1.cells 0 (.int .i64 E) rfl; have u1 := cells_at hX1.cells 1 (.int .i64 L) rfl; have u2 := cells_at hX1.cells 2 (.int .i64 T) rfl; have u3 := cells_at hX1.cells 3 (.bool a) rfl; have hxl := cell_lt hX1.cells; clear hM1 hB1 hX1)
    go_upto_region 19 with (fail)
    have hya : (W1.alloc (.cells #[.int .i64 E, .int .i64 L, .int .i64 T, .bool a, .slice none 0 0, .int .i64 0, .bool false, .bool false] 36)).heap[W1.heap.size]? = some (.cells (xcs E L T a (.slice none 0 0) 0 false false) 36 (0, 0)) := heap_alloc_new W1 _
    have hZ := HB1.out.alloc HB1.out.size (.cells #[.int .i64 E, .int .i64 L, .int .i64 T, .bool a, .slice none 0 0, .int .i64 0, .bool false, .bool false] 36)
    have hN0 := HM1.out.low ((Below.refl _ W1).alloc (Nat.le_refl _) (.cells #[.int .i64 E, .int .i64 L, .int .i64 T, .bool a, .slice none 0 0, .int .i64 0, .bool false, .bool false] 36)) (cell_lt HM1.out.cells) (cell_lt HM1.out.line)
    have hm1y := cell_lt HM1.out.cells
    have hg1y := cell_lt HM1.out.line
    have hSy := HB1.out.size
    have hBy : W1.heap.size + 1 ≤ (W1.alloc (.cells #[.int .i64 E, .int .i64 L, .int .i64 T, .bool a, .slice none 0 0, .int .i64 0, .bool false, .bool false] 36)).heap.size := by simp
    generalize W1.alloc (.cells #[.int .i64 E, .int .i64 L, .int .i64 T, .bool a, .slice none 0 0, .int .i64 0, .bool false, .bool false] 36) = Wp0 at hya hZ hN0 hBy ⊢
    generalize W1.heap.size = y at hya hm1y hg1y hSy hBy ⊢
    obtain ⟨By, hByy⟩ : ∃ By : Nat, By = y + 1 := ⟨_, rfl⟩
    rw [← hByy] at hBy
    have hyB : y < By := by omega
    have hyB2 : By ≤ y + 1 := by omega
    clear hByy
    have HY0 : Hid (Xc Wp0 y By E L T a (.slice none 0 0) [] 0 false false) := Lib.hid ⟨hya, World.ownsRow_nil _ _ _ _, hyB⟩
    have HN0 : Hid (Mc Wp0 m1 g1 E L T a ([] : List Inf).length (stgL []) 0 false false) := Lib.hid hN0
    have HZ0 := Lib.hid hZ
    have HV0 := Lib.hid Inv.nil
    have ho1 := (hZ.block _ hol).trans HOB.out
    have y1 := cell3_1 ho1
    have y2 := cell3_2 ho1
    have hol1 := cell_lt ho1
    clear hya hZ hN0 ho1
    obtain ⟨D0, hD0⟩ : ∃ D : List Inf, D = [] := ⟨_, rfl⟩
    obtain ⟨F0, hF0⟩ : ∃ F : Int, F = 0 := ⟨_, rfl⟩
    obtain ⟨P0, hP0⟩ : ∃ P : Bool, P = false := ⟨_, rfl⟩
    obtain ⟨C0, hC0⟩ : ∃ P : Bool, P = false := ⟨_, rfl⟩
    obtain ⟨dy0, hdy0⟩ : ∃ V : Value, V = .slice none 0 0 := ⟨_, rfl⟩
    have HY0 : Hid (Xc Wp0 y By E L T a dy0 D0 F0 P0 C0) := Lib.hid (by rw [hD0, hF0, hP0, hC0, hdy0]; exact HY0.out)
    have HN0 : Hid (Mc Wp0 m1 g1 E L T a D0.length (stgL D0) F0 P0 C0) := Lib.hid (by rw [hD0, hF0, hP0, hC0]; exact HN0.out)
    have HV0 : Hid (Inv D0 F0 P0 C0) := Lib.hid (by rw [hD0, hF0, hP0, hC0]; exact HV0.out)
    have hD0 : D0.length ≤ 0 := by rw [hD0]; exact Nat.le_refl _
    have hF0 : F0 ≤ 0 := by omega
    have hBy0 := hBy
    clear hP0 hC0 hdy0 hBy
    have HC := Lib.hid (padd_any m1 g1 E L T a D0 F0 P0 C0 q Wp0 HN0.out HV0.out (by omega) (by omega))
    have HI2 := Lib.hid (HV0.out.add E L q)
    have hf2 := add_fresh E L D0.length F0 P0 C0 q HV0.out.low
    have HRC := fun (W : World) (hX : Xc W y By E L T a dy0 D0 F0 P0 C0) (hs : By ≤ W.heap.size) => Lib.hid (radd_any y By E L T a dy0 D0 F0 P0 C0 q W hX hs (by omega) HSP.out.1.1 HSP.out.2.1.1 HV0.out.low (by omega))
    generalize addP E L D0.length F0 P0 C0 q = r at HC HI2 hf2 HRC
    obtain ⟨o', code, F1, P1, C1⟩ := r
    have hda := after_len D0 (o', code, F1, P1, C1)
    go_upto_region 21 with (first
      | (go_at_call 14; (with_reducible refine HC.out.mono ?_); rintro e Wq ⟨V, rfl, hT, hM, hO⟩; have HMq := Lib.hid hM; have hX2 := HY0.out.other hO (by omega) (by omega) (by omega) (by omega); have HXq := Lib.hid hX2; have HR := Lib.hid (HRC Wq hX2 (Nat.le_trans hBy0 hO.size)).out; have hbq := HZ0.out.trans (hO.below hSm hSg HZ0.out.size); have ho2 := (hbq.block _ hol).trans HOB.out; have y1 := cell3_1 ho2; have y2 := cell3_2 ho2; have hol' := cell_lt ho2; have HZq := Lib.hid hbq; have hbyq : By ≤ Wq.heap.size := Nat.le_trans hBy0 hO.size; clear hT hM hO hX2 ho2 hbq)
      | (go_at_call 21; (with_reducible refine HR.out.mono ?_); rintro e Wp1 ⟨V', dy1, rfl, hT, hX, hO⟩; have HY1 := Lib.hid hX; have HN1 := Lib.hid (HMq.out.other hO HXq.out.row (by omega) (by omega) (by omega) (by omega)); have hbp := HZq.out.trans (hO.below hSy (fun kk e => by have := (HXq.out.row.lt kk e).1; omega) HZq.out.size); have ho3 := (hbp.block _ hol).trans HOB.out; have y1 := cell3_1 ho3; have y2 := cell3_2 ho3; have hol'' := cell_lt ho3; have HZ1 := Lib.hid hbp; have hBy1 : By ≤ Wp1.heap.size := Nat.le_trans hbyq hO.size; clear hT hX hO hbp ho3))
    have HV1 : Hid (Inv (after D0 (o', code, F1, P1, C1)) F1 P1 C1) := HI2
    have HY1 : Hid (Xc Wp1 y By E L T a dy1 (after D0 (o', code, F1, P1, C1)) F1 P1 C1) := HY1
    have HN1 : Hid (Mc Wp1 m1 g1 E L T a (after D0 (o', code, F1, P1, C1)).length (stgL (after D0 (o', code, F1, P1, C1))) F1 P1 C1) := HN1
    have hF1 : F1 ≤ F0 + 1000 := by first | omega | (dsimp only at hf2; omega)
    generalize after D0 (o', code, F1, P1, C1) = D1 at hda HV1 HY1 HN1
    clear HC HI2 HRC hf2
    cases old with
    | false =>
      obtain ⟨WP, hWP⟩ : ∃ W : World, W = Wp1 := ⟨_, rfl⟩
      subst hWP
      have HV := HV1
      have HXP := Lib.hid (HX0.out.below HZ1.out)
      have HMP := Lib.hid (HM0.out.low HZ1.out hmA hgA)
      have HJ := Lib.hid (pjoin_any m g E L T a d fr p c m1 g1 D1 F1 P1 C1 WP HMP.out HN1.out (by omega) hlow (by omega) HV1.out.low (by omega))
      have HRJ := fun (W : World) (hX : Xc W x B E L T a dv d fr p c) (hY : Xc W y By E L T a dy1 D1 F1 P1 C1) => Lib.hid (rjoin_any x B E L T a dv d fr p c y By dy1 D1 F1 P1 C1 W hX hY (by omega) hlow (by omega) HV1.out.low (by omega) (by omega) (by omega))
      have HIJ := Lib.hid (HI.out.join (toldB P1 D1) F1 HV1.out.low)
      have hrr : (joinP d fr p c (toldB P1 D1) F1).2.2.1 ≤ fr + F1 := by
        unfold joinP
        have := HV1.out.low
        split <;> (dsimp only; omega)
      generalize joinP d fr p c (toldB P1 D1) F1 = r at HJ HRJ HIJ hrr
      obtain ⟨o', code, fr', p', c'⟩ := r
      have hda := after_len d (o', code, fr', p', c')
      go_upto_region 25 with (first
        | (go_at_call 13; (with_reducible refine HJ.out.mono ?_); rintro e W6 ⟨rfl, hM, hO⟩; have HM6 := Lib.hid hM; have HO6 := Lib.hid hO; have HX6 := Lib.hid (HXP.out.other hO HNE.out.1 HNE.out.2 hmB hgB); have HY6 := Lib.hid (HY1.out.other hO (by omega) (by omega) (by omega) (by omega)); have HN6 := Lib.hid (HN1.out.at hO (by omega) (by omega) (by omega) (by omega)); have HR := Lib.hid (HRJ W6 HX6.out HY6.out).out; clear hM hO)
        | (go_at_call 24; (with_reducible refine HR.out.mono ?_); rintro e W7 ⟨rfl, hX, hO⟩; have HX7 := Lib.hid hX; have HO7 := Lib.hid hO; clear hX hO))
      have hrow : ∀ kk, dv.ownBlock = some kk → kk < WA.heap.size := fun kk e => (HX0.out.row.lt kk e).2
      have HM7 := Lib.hid (HM6.out.other HO7.out HX6.out.row (fun e => HNE.out.1 e.symm) (fun e => HNE.out.2 e.symm) hmB hgB)
      have HN7 : Hid (Mc W7 m1 g1 E L T a D1.length (stgL D1) F1 P1 C1) := Lib.hid ⟨HN6.out.ne, HO7.out.at HN6.out.cells (by omega) (fun e => by have := hrow _ e; omega), HO7.out.at HN6.out.line (by omega) (fun e => by have := hrow _ e; omega)⟩
      have HY7 : Hid (Xc W7 y By E L T a dy1 D1 F1 P1 C1) := Lib.hid (HY6.out.kept fun kk hk => HO7.out.block kk (HY6.out.rlt hk) (by rcases hk with rfl | hk; omega; have := (HY6.out.row.lt kk hk).1; omega) (fun e => by have h1 := hrow _ e; rcases hk with rfl | hk; omega; have := (HY6.out.row.lt kk hk).1; omega))
      clear hrow
      have HSN := fun (q' : Wb W7) => Lib.hid (state_any m1 g1 E L T a D1.length (stgL D1) F1 P1 C1 q'.w (HN7.out.low q'.h (cell_lt HN7.out.cells) (cell_lt HN7.out.line)))
      have hyl := cell_lt HY7.out.cells
      have t5 := Wb.cell (cells_at HY7.out.cells 5 (.int .i64 F1) rfl) hyl
      have hfd := fun w' => Try.fieldS w' (D1.length : Int) (stgL D1) F1 P1 C1
      refine wp_region_quiet_below (by kernel_rfl) (by kernel_rfl) ?_
      repeat (go_big_quiet_step ((go_at_call 18; exact Wb.call (HSN _).out)))
      refine wpQuiet_nil ?_
      rintro W3 ⟨⟨_, hB8⟩, rfl⟩
      have HB8 := Lib.hid hB8
      have HM3 : Hid (Mc W3 m g E L T a (after d (o', code, fr', p', c')).length (stgL (after d (o', code, fr', p', c'))) fr' p' c') := Lib.hid (HM7.out.low hB8 (cell_lt HM7.out.cells) (cell_lt HM7.out.line))
      have HX3 : Hid (Xc W3 x B E L T a dv (after d (o', code, fr', p', c')) fr' p' c') := Lib.hid (HX7.out.below hB8)
      have HI3 : Hid (Inv (after d (o', code, fr', p', c')) fr' p' c') := HIJ
      have HF3 : Hid (∀ B0, B0 ≤ m → B0 ≤ g → B0 ≤ x → Below B0 w W3) := Lib.hid fun B0 h1 h2 h3 => by
        have hf := (HFA.out B0 h1 h2 h3).trans (HZ1.out.mono (by omega))
        have hf2 := hf.trans (HO6.out.below h1 h2 (by have := hf.size; omega))
        have hf3 := hf2.trans (HO7.out.below h3 (fun kk e => by have := (HX6.out.row.lt kk e).1; have := HX6.out.lt; omega) (by have := hf2.size; omega))
        exact hf3.trans (HB8.out.mono (by have := hf3.size; omega))
      have hfl : fr' ≤ fr + 2000 := by first | omega | (dsimp only at hrr; omega)
      have hdl : (after d (o', code, fr', p', c')).length ≤ d.length + 1 := hda
      generalize after d (o', code, fr', p', c') = d' at hdl HI3 HM3 HX3 hda HIJ HM6 HX7 HM7 HJ HRJ HR
      have HS := Lib.hid (state_any m g E L T a d'.length (stgL d') fr' p' c' W3 HM3.out)
      clear HJ HRJ HIJ HM6 HX7 HM7 HR HN7 HY7 HSN t5 hfd hB8 hrr hda
      go_upto_region 28 with (go_at_call 18; (with_reducible refine HS.out.mono ?_); rintro e w4 ⟨rfl, hb⟩; have HB4 := Lib.hid hb; clear hb)
      have hz4 := HB4.out.size
      have hbx : (w4.alloc (.cells #[.int .i64 (d'.length : Int), .int .i64 (stgL d'), .int .i64 fr', .bool p', .bool c'] 51)).heap[w4.heap.size]? = some (.cells #[.int .i64 (d'.length : Int), .int .i64 (stgL d'), .int .i64 fr', .bool p', .bool c'] 51 (0, 0)) := heap_alloc_new w4 _
      have HB5 : Hid (Below W3.heap.size W3 (w4.alloc (.cells #[.int .i64 (d'.length : Int), .int .i64 (stgL d'), .int .i64 fr', .bool p', .bool c'] 51))) := Lib.hid (HB4.out.alloc hz4 _)
      generalize w4.alloc (.cells #[.int .i64 (d'.length : Int), .int .i64 (stgL d'), .int .i64 fr', .bool p', .bool c'] 51) = W5 at hbx HB5 ⊢
      generalize w4.heap.size = TBX at hbx ⊢
      obtain ⟨A', cp', rfl⟩ := HX3.out.slice
      have HX5 := Lib.hid (HX3.out.below HB5.out)
      have hbl := cell_lt hbx
      have g0 := Wb.cell (cells_at hbx 0 _ rfl) hbl
      have g1 := Wb.cell (cells_at hbx 1 _ rfl) hbl
      have g2 := Wb.cell (cells_at hbx 2 _ rfl) hbl
      have g3 := Wb.cell (cells_at hbx 3 _ rfl) hbl
      have g4 := Wb.cell (cells_at hbx 4 _ rfl) hbl
      have hxl := cell_lt HX5.out.cells
      have k4 := Wb.cell (cells_at HX5.out.cells 4 (.slice A' d'.length cp') rfl) hxl
      have k5 := Wb.cell (cells_at HX5.out.cells 5 (.int .i64 fr') rfl) hxl
      have k6 := Wb.cell (cells_at HX5.out.cells 6 (.bool p') rfl) hxl
      have k7 := Wb.cell (cells_at HX5.out.cells 7 (.bool c') rfl) hxl
      have HTB : Hid (Told 0 W5 (.slice none 0 0) none) := Lib.hid rfl
      have HTR : Hid (ToldR 0 W5 (.slice none 0 0) none) := Lib.hid rfl
      have HSA := fun (q : Wb W5) => Lib.hid (same_any 0 0 (.slice none 0 0) (.slice none 0 0) none q.w (HTB.out.other fun b _ hb => q.h.block b hb) (HTR.out.other fun b _ hb => q.h.block b hb))
      have HRS := fun (q : Wb W5) => Lib.hid (rstage_b (fun b => B ≤ b) (.slice A' d'.length cp') d' q.w ((IsAt.own HX5.out.row).below q.h) (by have := hdl; omega) HI3.out.gd)
      have hgs := fun w' => Try.guardS .eql w'
      have hes : ∀ w', (binOp .eql 51 (.agg #[.int .i64 (d'.length : Int), .int .i64 (stgL d'), .int .i64 fr', .bool p', .bool c']) (.agg #[.int .i64 (d'.length : Int), .int .i64 (stgL d'), .int .i64 fr', .bool p', .bool c'])).run Try.prog w' = .ok (.bool true) w' := fun w' => by rw [Try.eqlS]; simp
      clear hbx
      refine wp_region_quiet_below (by kernel_rfl) (by kernel_rfl) ?_
      repeat (go_big_quiet_step (first | (go_at_call 25; exact Wb.call (HSA _).out) | (go_at_call 26; exact Wb.call (HRS _).out)))
      refine wpQuiet_nil ?_
      rintro wd ⟨⟨_, HBc⟩, rfl⟩
      go_wp2_with (fail)
      go_ret
      have hBc := HB5.out.trans (HBc.mono HB5.out.size)
      exact ⟨rfl, d', fr', p', c', _, HI3.out, HM3.out.low hBc (cell_lt HM3.out.cells) (cell_lt HM3.out.line), HX3.out.below hBc, hdl, hfl, fun B0 h1 h2 h3 => by have hf := HF3.out B0 h1 h2 h3; exact hf.trans (hBc.mono (by have := hf.size; omega))⟩
    | true =>
      have HC := Lib.hid (ppass_any m1 g1 E L T a D1 F1 P1 C1 Wp1 HN1.out HV1.out (by omega))
      have HI2 := Lib.hid (HV1.out.pass T)
      have hf2 := pass_fresh T D1.length F1 P1 C1 HV1.out.low
      have HRC := fun (W : World) (hX : Xc W y By E L T a dy1 D1 F1 P1 C1) (hs : By ≤ W.heap.size) => Lib.hid (rpass_any y By E L T a dy1 D1 F1 P1 C1 W hX hs (by omega) (fun e => (HV1.out.early e).2))
      generalize passP T D1.length F1 P1 C1 = r at HC HI2 hf2 HRC
      obtain ⟨o', code, F2, P2, C2⟩ := r
      have hda := after_len D1 (o', code, F2, P2, C2)
      go_upto_region 24 with (first
        | (go_at_call 15; (with_reducible refine HC.out.mono ?_); rintro e Wq ⟨V, rfl, hT, hM, hO⟩; have HMq := Lib.hid hM; have hX2 := HY1.out.other hO (by omega) (by omega) (by omega) (by omega); have HXq := Lib.hid hX2; have HR := Lib.hid (HRC Wq hX2 (Nat.le_trans hBy1 hO.size)).out; have hbq := HZ1.out.trans (hO.below hSm hSg HZ1.out.size); have ho2 := (hbq.block _ hol).trans HOB.out; have y1 := cell3_1 ho2; have y2 := cell3_2 ho2; have hol' := cell_lt ho2; have HZq := Lib.hid hbq; have hbyq : By ≤ Wq.heap.size := Nat.le_trans hBy1 hO.size; clear hT hM hO hX2 ho2 hbq)
        | (go_at_call 22; (with_reducible refine HR.out.mono ?_); rintro e Wp2 ⟨V', dy2, rfl, hT, hX, hO⟩; have HY2 := Lib.hid hX; have HN2 := Lib.hid (HMq.out.other hO HXq.out.row (by omega) (by omega) (by omega) (by omega)); have hbp := HZq.out.trans (hO.below hSy (fun kk e => by have := (HXq.out.row.lt kk e).1; omega) HZq.out.size); have ho3 := (hbp.block _ hol).trans HOB.out; have y1 := cell3_1 ho3; have y2 := cell3_2 ho3; have hol'' := cell_lt ho3; have HZ2 := Lib.hid hbp; have hBy2 : By ≤ Wp2.heap.size := Nat.le_trans hbyq hO.size; clear hT hX hO hbp ho3))
      have HV2 : Hid (Inv (after D1 (o', code, F2, P2, C2)) F2 P2 C2) := HI2
      have HY2 : Hid (Xc Wp2 y By E L T a dy2 (after D1 (o', code, F2, P2, C2)) F2 P2 C2) := HY2
      have HN2 : Hid (Mc Wp2 m1 g1 E L T a (after D1 (o', code, F2, P2, C2)).length (stgL (after D1 (o', code, F2, P2, C2))) F2 P2 C2) := HN2
      have hF2 : F2 ≤ F1 + 1000 := by first | omega | (dsimp only at hf2; omega)
      generalize after D1 (o', code, F2, P2, C2) = D2 at hda HV2 HY2 HN2
      clear HC HI2 HRC hf2
      obtain ⟨WP, hWP⟩ : ∃ W : World, W = Wp2 := ⟨_, rfl⟩
      subst hWP
      have HV := HV2
      have HXP := Lib.hid (HX0.out.below HZ2.out)
      have HMP := Lib.hid (HM0.out.low HZ2.out hmA hgA)
      have HJ := Lib.hid (pjoin_any m g E L T a d fr p c m1 g1 D2 F2 P2 C2 WP HMP.out HN2.out (by omega) hlow (by omega) HV2.out.low (by omega))
      have HRJ := fun (W : World) (hX : Xc W x B E L T a dv d fr p c) (hY : Xc W y By E L T a dy2 D2 F2 P2 C2) => Lib.hid (rjoin_any x B E L T a dv d fr p c y By dy2 D2 F2 P2 C2 W hX hY (by omega) hlow (by omega) HV2.out.low (by omega) (by omega) (by omega))
      have HIJ := Lib.hid (HI.out.join (toldB P2 D2) F2 HV2.out.low)
      have hrr : (joinP d fr p c (toldB P2 D2) F2).2.2.1 ≤ fr + F2 := by
        unfold joinP
        have := HV2.out.low
        split <;> (dsimp only; omega)
      generalize joinP d fr p c (toldB P2 D2) F2 = r at HJ HRJ HIJ hrr
      obtain ⟨o', code, fr', p', c'⟩ := r
      have hda := after_len d (o', code, fr', p', c')
      go_upto_region 25 with (first
        | (go_at_call 13; (with_reducible refine HJ.out.mono ?_); rintro e W6 ⟨rfl, hM, hO⟩; have HM6 := Lib.hid hM; have HO6 := Lib.hid hO; have HX6 := Lib.hid (HXP.out.other hO HNE.out.1 HNE.out.2 hmB hgB); have HY6 := Lib.hid (HY2.out.other hO (by omega) (by omega) (by omega) (by omega)); have HN6 := Lib.hid (HN2.out.at hO (by omega) (by omega) (by omega) (by omega)); have HR := Lib.hid (HRJ W6 HX6.out HY6.out).out; clear hM hO)
        | (go_at_call 24; (with_reducible refine HR.out.mono ?_); rintro e W7 ⟨rfl, hX, hO⟩; have HX7 := Lib.hid hX; have HO7 := Lib.hid hO; clear hX hO))
      have hrow : ∀ kk, dv.ownBlock = some kk → kk < WA.heap.size := fun kk e => (HX0.out.row.lt kk e).2
      have HM7 := Lib.hid (HM6.out.other HO7.out HX6.out.row (fun e => HNE.out.1 e.symm) (fun e => HNE.out.2 e.symm) hmB hgB)
      have HN7 : Hid (Mc W7 m1 g1 E L T a D2.length (stgL D2) F2 P2 C2) := Lib.hid ⟨HN6.out.ne, HO7.out.at HN6.out.cells (by omega) (fun e => by have := hrow _ e; omega), HO7.out.at HN6.out.line (by omega) (fun e => by have := hrow _ e; omega)⟩
      have HY7 : Hid (Xc W7 y By E L T a dy2 D2 F2 P2 C2) := Lib.hid (HY6.out.kept fun kk hk => HO7.out.block kk (HY6.out.rlt hk) (by rcases hk with rfl | hk; omega; have := (HY6.out.row.lt kk hk).1; omega) (fun e => by have h1 := hrow _ e; rcases hk with rfl | hk; omega; have := (HY6.out.row.lt kk hk).1; omega))
      clear hrow
      have HSN := fun (q' : Wb W7) => Lib.hid (state_any m1 g1 E L T a D2.length (stgL D2) F2 P2 C2 q'.w (HN7.out.low q'.h (cell_lt HN7.out.cells) (cell_lt HN7.out.line)))
      have hyl := cell_lt HY7.out.cells
      have t5 := Wb.cell (cells_at HY7.out.cells 5 (.int .i64 F2) rfl) hyl
      have hfd := fun w' => Try.fieldS w' (D2.length : Int) (stgL D2) F2 P2 C2
      refine wp_region_quiet_below (by kernel_rfl) (by kernel_rfl) ?_
      repeat (go_big_quiet_step ((go_at_call 18; exact Wb.call (HSN _).out)))
      refine wpQuiet_nil ?_
      rintro W3 ⟨⟨_, hB8⟩, rfl⟩
      have HB8 := Lib.hid hB8
      have HM3 : Hid (Mc W3 m g E L T a (after d (o', code, fr', p', c')).length (stgL (after d (o', code, fr', p', c'))) fr' p' c') := Lib.hid (HM7.out.low hB8 (cell_lt HM7.out.cells) (cell_lt HM7.out.line))
      have HX3 : Hid (Xc W3 x B E L T a dv (after d (o', code, fr', p', c')) fr' p' c') := Lib.hid (HX7.out.below hB8)
      have HI3 : Hid (Inv (after d (o', code, fr', p', c')) fr' p' c') := HIJ
      have HF3 : Hid (∀ B0, B0 ≤ m → B0 ≤ g → B0 ≤ x → Below B0 w W3) := Lib.hid fun B0 h1 h2 h3 => by
        have hf := (HFA.out B0 h1 h2 h3).trans (HZ2.out.mono (by omega))
        have hf2 := hf.trans (HO6.out.below h1 h2 (by have := hf.size; omega))
        have hf3 := hf2.trans (HO7.out.below h3 (fun kk e => by have := (HX6.out.row.lt kk e).1; have := HX6.out.lt; omega) (by have := hf2.size; omega))
        exact hf3.trans (HB8.out.mono (by have := hf3.size; omega))
      have hfl : fr' ≤ fr + 2000 := by first | omega | (dsimp only at hrr; omega)
      have hdl : (after d (o', code, fr', p', c')).length ≤ d.length + 1 := hda
      generalize after d (o', code, fr', p', c') = d' at hdl HI3 HM3 HX3 hda HIJ HM6 HX7 HM7 HJ HRJ HR
      have HS := Lib.hid (state_any m g E L T a d'.length (stgL d') fr' p' c' W3 HM3.out)
      clear HJ HRJ HIJ HM6 HX7 HM7 HR HN7 HY7 HSN t5 hfd hB8 hrr hda
      go_upto_region 28 with (go_at_call 18; (with_reducible refine HS.out.mono ?_); rintro e w4 ⟨rfl, hb⟩; have HB4 := Lib.hid hb; clear hb)
      have hz4 := HB4.out.size
      have hbx : (w4.alloc (.cells #[.int .i64 (d'.length : Int), .int .i64 (stgL d'), .int .i64 fr', .bool p', .bool c'] 51)).heap[w4.heap.size]? = some (.cells #[.int .i64 (d'.length : Int), .int .i64 (stgL d'), .int .i64 fr', .bool p', .bool c'] 51 (0, 0)) := heap_alloc_new w4 _
      have HB5 : Hid (Below W3.heap.size W3 (w4.alloc (.cells #[.int .i64 (d'.length : Int), .int .i64 (stgL d'), .int .i64 fr', .bool p', .bool c'] 51))) := Lib.hid (HB4.out.alloc hz4 _)
      generalize w4.alloc (.cells #[.int .i64 (d'.length : Int), .int .i64 (stgL d'), .int .i64 fr', .bool p', .bool c'] 51) = W5 at hbx HB5 ⊢
      generalize w4.heap.size = TBX at hbx ⊢
      obtain ⟨A', cp', rfl⟩ := HX3.out.slice
      have HX5 := Lib.hid (HX3.out.below HB5.out)
      have hbl := cell_lt hbx
      have g0 := Wb.cell (cells_at hbx 0 _ rfl) hbl
      have g1 := Wb.cell (cells_at hbx 1 _ rfl) hbl
      have g2 := Wb.cell (cells_at hbx 2 _ rfl) hbl
      have g3 := Wb.cell (cells_at hbx 3 _ rfl) hbl
      have g4 := Wb.cell (cells_at hbx 4 _ rfl) hbl
      have hxl := cell_lt HX5.out.cells
      have k4 := Wb.cell (cells_at HX5.out.cells 4 (.slice A' d'.length cp') rfl) hxl
      have k5 := Wb.cell (cells_at HX5.out.cells 5 (.int .i64 fr') rfl) hxl
      have k6 := Wb.cell (cells_at HX5.out.cells 6 (.bool p') rfl) hxl
      have k7 := Wb.cell (cells_at HX5.out.cells 7 (.bool c') rfl) hxl
      have HTB : Hid (Told 0 W5 (.slice none 0 0) none) := Lib.hid rfl
      have HTR : Hid (ToldR 0 W5 (.slice none 0 0) none) := Lib.hid rfl
      have HSA := fun (q : Wb W5) => Lib.hid (same_any 0 0 (.slice none 0 0) (.slice none 0 0) none q.w (HTB.out.other fun b _ hb => q.h.block b hb) (HTR.out.other fun b _ hb => q.h.block b hb))
      have HRS := fun (q : Wb W5) => Lib.hid (rstage_b (fun b => B ≤ b) (.slice A' d'.length cp') d' q.w ((IsAt.own HX5.out.row).below q.h) (by have := hdl; omega) HI3.out.gd)
      have hgs := fun w' => Try.guardS .eql w'
      have hes : ∀ w', (binOp .eql 51 (.agg #[.int .i64 (d'.length : Int), .int .i64 (stgL d'), .int .i64 fr', .bool p', .bool c']) (.agg #[.int .i64 (d'.length : Int), .int .i64 (stgL d'), .int .i64 fr', .bool p', .bool c'])).run Try.prog w' = .ok (.bool true) w' := fun w' => by rw [Try.eqlS]; simp
      clear hbx
      refine wp_region_quiet_below (by kernel_rfl) (by kernel_rfl) ?_
      repeat (go_big_quiet_step (first | (go_at_call 25; exact Wb.call (HSA _).out) | (go_at_call 26; exact Wb.call (HRS _).out)))
      refine wpQuiet_nil ?_
      rintro wd ⟨⟨_, HBc⟩, rfl⟩
      go_wp2_with (fail)
      go_ret
      have hBc := HB5.out.trans (HBc.mono HB5.out.size)
      exact ⟨rfl, d', fr', p', c', _, HI3.out, HM3.out.low hBc (cell_lt HM3.out.cells) (cell_lt HM3.out.line), HX3.out.below hBc, hdl, hfl, fun B0 h1 h2 h3 => by have hf := HF3.out B0 h1 h2 h3; exact hf.trans (hBc.mono (by have := hf.size; omega))⟩
  have e4 : (k == 4) = false := by simp [hk4]
  obtain ⟨W3, hW3⟩ : ∃ W : World, W = WA := ⟨_, rfl⟩
  subst hW3
  obtain ⟨d', hd'⟩ : ∃ d' : List Inf, d' = d := ⟨_, rfl⟩
  subst hd'
  obtain ⟨fr', hfr'⟩ : ∃ f : Int, f = fr := ⟨_, rfl⟩
  subst hfr'
  obtain ⟨p', hp'⟩ : ∃ f : Bool, f = p := ⟨_, rfl⟩
  subst hp'
  obtain ⟨c', hc'⟩ : ∃ f : Bool, f = c := ⟨_, rfl⟩
  subst hc'
  have HM3 := HM0
  have HX3 := HX0
  have HI3 := HI
  have HF3 := HFA
  have hdl : d'.length ≤ d'.length + 1 := by omega
  have hfl : fr' ≤ fr' + 2000 := by omega
  have HS := Lib.hid (state_any m g E L T a d'.length (stgL d') fr' p' c' W3 HM3.out)
  clear hk1 hk2 hk3 hk4
  go_upto_region 28 with (go_at_call 18; (with_reducible refine HS.out.mono ?_); rintro e w4 ⟨rfl, hb⟩; have HB4 := Lib.hid hb; clear hb)
  have hz4 := HB4.out.size
  have hbx : (w4.alloc (.cells #[.int .i64 (d'.length : Int), .int .i64 (stgL d'), .int .i64 fr', .bool p', .bool c'] 51)).heap[w4.heap.size]? = some (.cells #[.int .i64 (d'.length : Int), .int .i64 (stgL d'), .int .i64 fr', .bool p', .bool c'] 51 (0, 0)) := heap_alloc_new w4 _
  have HB5 : Hid (Below W3.heap.size W3 (w4.alloc (.cells #[.int .i64 (d'.length : Int), .int .i64 (stgL d'), .int .i64 fr', .bool p', .bool c'] 51))) := Lib.hid (HB4.out.alloc hz4 _)
  generalize w4.alloc (.cells #[.int .i64 (d'.length : Int), .int .i64 (stgL d'), .int .i64 fr', .bool p', .bool c'] 51) = W5 at hbx HB5 ⊢
  generalize w4.heap.size = TBX at hbx ⊢
  obtain ⟨A', cp', rfl⟩ := HX3.out.slice
  have HX5 := Lib.hid (HX3.out.below HB5.out)
  have hbl := cell_lt hbx
  have g0 := Wb.cell (cells_at hbx 0 _ rfl) hbl
  have g1 := Wb.cell (cells_at hbx 1 _ rfl) hbl
  have g2 := Wb.cell (cells_at hbx 2 _ rfl) hbl
  have g3 := Wb.cell (cells_at hbx 3 _ rfl) hbl
  have g4 := Wb.cell (cells_at hbx 4 _ rfl) hbl
  have hxl := cell_lt HX5.out.cells
  have k4 := Wb.cell (cells_at HX5.out.cells 4 (.slice A' d'.length cp') rfl) hxl
  have k5 := Wb.cell (cells_at HX5.out.cells 5 (.int .i64 fr') rfl) hxl
  have k6 := Wb.cell (cells_at HX5.out.cells 6 (.bool p') rfl) hxl
  have k7 := Wb.cell (cells_at HX5.out.cells 7 (.bool c') rfl) hxl
  have HTB : Hid (Told 0 W5 (.slice none 0 0) none) := Lib.hid rfl
  have HTR : Hid (ToldR 0 W5 (.slice none 0 0) none) := Lib.hid rfl
  have HSA := fun (q : Wb W5) => Lib.hid (same_any 0 0 (.slice none 0 0) (.slice none 0 0) none q.w (HTB.out.other fun b _ hb => q.h.block b hb) (HTR.out.other fun b _ hb => q.h.block b hb))
  have HRS := fun (q : Wb W5) => Lib.hid (rstage_b (fun b => B ≤ b) (.slice A' d'.length cp') d' q.w ((IsAt.own HX5.out.row).below q.h) (by have := hdl; omega) HI3.out.gd)
  have hgs := fun w' => Try.guardS .eql w'
  have hes : ∀ w', (binOp .eql 51 (.agg #[.int .i64 (d'.length : Int), .int .i64 (stgL d'), .int .i64 fr', .bool p', .bool c']) (.agg #[.int .i64 (d'.length : Int), .int .i64 (stgL d'), .int .i64 fr', .bool p', .bool c'])).run Try.prog w' = .ok (.bool true) w' := fun w' => by rw [Try.eqlS]; simp
  clear hbx
  refine wp_region_quiet_below (by kernel_rfl) (by kernel_rfl) ?_
  repeat (go_big_quiet_step (first | (go_at_call 25; exact Wb.call (HSA _).out) | (go_at_call 26; exact Wb.call (HRS _).out)))
  refine wpQuiet_nil ?_
  rintro wd ⟨⟨_, HBc⟩, rfl⟩
  go_wp2_with (fail)
  go_ret
  have hBc := HB5.out.trans (HBc.mono HB5.out.size)
  exact ⟨rfl, d', fr', p', c', _, HI3.out, HM3.out.low hBc (cell_lt HM3.out.cells) (cell_lt HM3.out.line), HX3.out.below hBc, hdl, hfl, fun B0 h1 h2 h3 => by have hf := HF3.out B0 h1 h2 h3; exact hf.trans (hBc.mono (by have := hf.size; omega))⟩

end Go.Proofs.Ytoplkinlgneidaa
