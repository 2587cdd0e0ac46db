import Derived.Test.YtaecndmncpfpfaaGreatDoorShelf
import Derived.Test.YtaecndmncpfpfaaGreatDoorCj
import Derived.Laws.AppendOwnNone
namespace Go.Proofs.YtaecndmncpfpfaaGreatDoor
open Go.RowKit Go.Shelf
theorem infoBd : (Tryz.prog.info? 160).map (fun i => (i.zero, i.size, i.bytes)) = some (some (.agg #[.string ⟨#[]⟩, .int .i64 0, .slice none 0 0]), 3, 48) := by kernel_rfl
theorem growBd_any (n : Nat) (w : World) (hn : n ≤ 100000) (h0 : 0 < n) :
    Calls Tryz.prog 164 #[.slice none 0 0, .int .i64 (n : Int)] w fun e w' => ∃ v, e = .returned v ∧ w'.ownsRow w.heap.size 160 3 v 0 [] ∧ Below w.heap.size w w' := by
 obtain ⟨i0, hi, hq0, hq1, hq2⟩ := info_parts infoBd
 have hg := Any8.slices_Grow_grow Tryz.laysGrowB i0 _ (show Tryz.prog.info? 160 = some i0 from hi) hq0 (by omega) none 0 0 n [] w (by omega) (by omega) (by rw [hq2]; omega) (by omega) (by simp) (fun _ => rfl) (fun a ha => by cases ha)
 rw [show Tryz.laysGrowB_ren.t 25 = 160 from rfl] at hg
 refine hg.mono fun e w' ⟨he, hw⟩ => ⟨_, he, ?_, ?_⟩
 · subst hw
   refine ⟨rfl, .inr ⟨w.heap.size, grownCap w (0 + n) 0 160, _, rfl, Nat.le_refl _, heap_new_at (by simp), Nat.zero_le _, grownCap_le_maxLen w _ 0 160 (by unfold maxLen; omega), ?_, by simp⟩⟩
   have := grownCap_ge w n 0 160
   simp [Builtin.zeroCells, Value.cells]
   omega
 · subst hw
   exact ((Below.refl _ w).drew).alloc (Nat.le_refl _) _
def CsAt (w : World) (P : Nat → Prop) (A : Option Addr) (n : Nat) (xs : List Value) : Prop :=
 xs.length = n * 3 ∧ (∀ u ∈ xs, u.oneCell' = true) ∧ ((n = 0 ∧ A = none) ∨ ∃ b o, A = some ⟨b, o, none⟩ ∧ P b ∧ ∀ (j : Nat) (u : Value), xs[j]? = some u → w.cell? ⟨b, o + j, none⟩ = some u)
theorem wpList_append_binds {ops : Array Oper} {rest : List Oper} {o : Oper} {a : Act} {w : World} {Q : Exit → Act → World → Prop} (hgd : o.guard = none) (s x : Operand)
    (ho : o.op = .call { callee := .builtin .append, args := #[s, x], argTypes := #[77, 77] })
    (base : Nat) (v : Value) (n m mk : Nat) (xs ys : List Value) (hs : a.eval s = v) (hown : w.ownsRow base 160 3 v n xs) (P : Nat → Prop) (A : Option Addr) (hx : a.eval x = .slice A m mk) (hst : CsAt w P A m ys) (hmk : m = 0 → mk = 0)
    (hlen : n + m ≤ 100000) (hbase : base ≤ w.heap.size)
    (h : ∀ v' w', w'.ownsRow base 160 3 v' (n + m) (xs ++ ys) → w.grownBy w' v.ownBlock → (v'.ownBlock = v.ownBlock ∨ v'.ownBlock = some w.heap.size) → wpList Tryz.prog ops Q rest (a.put o.dst v') w') :
    wpList Tryz.prog ops Q (o :: rest) a w := by
 obtain ⟨i0, hi, hq0, hq1, hq2⟩ := info_parts infoBd
 obtain ⟨hyl, hone, hst⟩ := hst
 rcases hst with ⟨rfl, rfl⟩ | ⟨b, o', rfl, _, hj⟩
 · obtain rfl : ys = [] := List.length_eq_zero_iff.1 (by omega)
   obtain rfl := hmk rfl
   refine wpList_append_own_none hgd s x 77 ho base 160 i0 3 Tryz.underlying77 hi v n xs hs hown hx ?_
   refine h v w (by simpa using hown) ⟨rfl, rfl, rfl, Nat.le_refl _, fun _ _ _ => rfl⟩ (.inl rfl)
 · refine wpList_append_own_at w hgd s x 77 ho base 160 i0 (.agg #[.string ⟨#[]⟩, .int .i64 0, .slice none 0 0]) 3 48 Tryz.underlying77 hi hq0 hq1 hq2 rfl (by decide) v n xs hs hown ⟨b, o', none⟩ m mk ys hx hyl (fun j u hu => ?_) (fun u hu => ?_) (by unfold maxLen; omega) (by omega) hbase (fun v' w' h1 h2 _ h4 => h v' w' h1 h2 h4)
   · have h2 := hj j u hu
     unfold Addr.add
     split
     · rename_i h0; subst h0; exact h2
     · exact h2
   · exact hone u hu
theorem CsAt.below {w w' : World} {P : Nat → Prop} {A : Option Addr} {n : Nat} {xs : List Value} (h : CsAt w P A n xs) (hP : ∀ k, P k → k < w.heap.size) (hb : Below w.heap.size w w') : CsAt w' P A n xs :=
 ⟨h.1, h.2.1, h.2.2.imp id fun ⟨b, o, e, hp, hj⟩ => ⟨b, o, e, hp, fun j u hu => (hb.cell (p := ⟨b, _, none⟩) (hP b hp)).trans (hj j u hu)⟩⟩
def catC (a b : List Value) : Nat → List Value
 | 0 => []
 | 1 => a
 | _ => a ++ b
def numJ (a b : Nat) : Nat → Nat
 | 0 => 0
 | 1 => a
 | _ => a + b
set_option maxRecDepth 100000 in
set_option maxHeartbeats 1000000 in
theorem concatBd_any (SB : Nat) (P : Nat → Prop) (NA BA : Option Addr) (n m nk mk : Nat) (xs ys : List Value) (w : World) (c0 : w.cell? ⟨SB, 0, none⟩ = some (.slice NA n nk)) (c1 : w.cell? ⟨SB, 1, none⟩ = some (.slice BA m mk))
    (hn : n ≤ 1000) (hm : m ≤ 1000) (hm0 : 0 < m) (hP : ∀ k, P k → k < w.heap.size) (hx : CsAt w P NA n xs) (hnk : n = 0 → nk = 0) (hy : CsAt w P BA m ys) :
    Calls Tryz.prog 135 #[.slice (some ⟨SB, 0, none⟩) 2 2] w fun e w' => ∃ v, e = .returned v ∧ w'.ownsRow w.heap.size 160 3 v (n + m) (xs ++ ys) ∧ Below w.heap.size w w' := by
 have hgl := lt_of_cell c0
 have HX := Lib.hid hx
 have HY := Lib.hid hy
 have HP := Lib.hid hP
 have HNK := Lib.hid hnk
 clear hx hy hP hnk
 go_enter Tryz.func135, Tryz.ntmps135
 go_wp2_with (fail)
 go_loopw [3, 11] (fun sz iv wr => ∃ j : Nat, iv = .int .i64 (j : Int) ∧ j ≤ 2 ∧ sz = .int .i64 ((numJ n m j : Nat) : Int) ∧ wr = w) (fun _ iv _ => 2 - (intOf iv).toNat)
 case atStart => exact ⟨0, rfl, by omega, rfl, rfl⟩
 case round =>
  obtain ⟨j, rfl, hj, rfl, hw⟩ := hrel
  have hw' := hw.symm
  subst hw'
  rcases (show j = 0 ∨ j = 1 ∨ j = 2 by omega) with rfl | rfl | rfl
  · have e0 : numJ n m 0 = 0 := rfl
    rw [e0]
    go_wp2_with (fail)
    go_roundw
    case rel => exact ⟨1, by go_num, by omega, by go_num, trivial⟩
    case measure => simp [intOf]
  · have e0 : numJ n m 1 = n := rfl
    rw [e0]
    go_wp2_with (fail)
    go_roundw
    case rel => exact ⟨2, by go_num, by omega, by go_num, trivial⟩
    case measure => simp [intOf]
  · have e0 : numJ n m 2 = n + m := rfl
    obtain ⟨q, hq⟩ : ∃ q, q = n + m := ⟨_, rfl⟩
    have HQ := Lib.hid hq
    rw [e0, ← hq]
    have hq1 : q ≤ 2000 := by omega
    have hq0 : 0 < q := by omega
    clear hq e0
    go_wp2_with (fail)
    refine (growBd_any q w (by omega) hq0).mono ?_
    rintro e w2 ⟨v2, rfl, ho2, hb2⟩
    have HO2 := Lib.hid ho2
    have HB2 := Lib.hid hb2
    clear ho2 hb2
    go_wp2_with (fail)
    go_loopw [6, 27] (fun ns iv wq => ∃ j : Nat, iv = .int .i64 (j : Int) ∧ j ≤ 2 ∧ wq.ownsRow w.heap.size 160 3 ns (numJ n m j) (catC xs ys j) ∧ Hid (Below w.heap.size w wq)) (fun _ iv _ => 2 - (intOf iv).toNat)
    case atStart => exact ⟨0, rfl, by omega, HO2.out, HB2⟩
    case round =>
     obtain ⟨j, rfl, hj, ho, HB⟩ := hrel
     have HOW := Lib.hid ho
     have hsz := HB.out.size
     clear ho
     have k0 := (HB.out.cell (p := ⟨SB, 0, none⟩) hgl).trans c0
     have k1 := (HB.out.cell (p := ⟨SB, 1, none⟩) hgl).trans c1
     rcases (show j = 0 ∨ j = 1 ∨ j = 2 by omega) with rfl | rfl | rfl
     · go_wp2_with (at_builtin; refine wpList_append_binds rfl _ _ rfl w.heap.size _ (numJ n m 0) n nk (catC xs ys 0) xs rfl HOW.out P NA rfl (HX.out.below HP.out HB.out) HNK.out (by simp [numJ]; omega) hsz ?_; intro v7 w7 hown7 hgrow7 hat7)
       go_roundw
       case rel => exact ⟨1, by go_num, by omega, by simpa [numJ, catC] using hown7, HB.out.grown hgrow7 hsz (fun k hk => (HOW.out.lt k hk).1)⟩
       case measure => simp [intOf]
     · go_wp2_with (at_builtin; refine wpList_append_binds rfl _ _ rfl w.heap.size _ (numJ n m 1) m mk (catC xs ys 1) ys rfl HOW.out P BA rfl (HY.out.below HP.out HB.out) (fun h => absurd h (by omega)) (by simp [numJ]; omega) hsz ?_; intro v7 w7 hown7 hgrow7 hat7)
       go_roundw
       case rel => exact ⟨2, by go_num, by omega, hown7, HB.out.grown hgrow7 hsz (fun k hk => (HOW.out.lt k hk).1)⟩
       case measure => simp [intOf]
     · go_wp2_with (fail)
       go_ret
       exact ⟨_, rfl, HOW.out, HB.out⟩
end Go.Proofs.YtaecndmncpfpfaaGreatDoor
namespace Go.Proofs.YtaecndmncpfpfaaGreatDoor
open Go.RowKit
def BTy (w : World) (P : Nat → Prop) (d : Nat) (A : Option Addr) (bs : List (List UInt8 × Ty)) : Prop :=
 0 < bs.length → ∃ b o, A = some ⟨b, o, none⟩ ∧ P b ∧ ∀ (j : Nat) (x : List UInt8 × Ty), bs[j]? = some x → ∃ u0 u1, w.cell? ⟨b, o + j * 3, none⟩ = some (.string ⟨x.1.toArray⟩) ∧ w.cell? ⟨b, o + j * 3 + 1, none⟩ = some u0 ∧ w.cell? ⟨b, o + j * 3 + 2, none⟩ = some u1 ∧ TyAt w P d (.agg #[u0, u1]) x.2
def CsTy (w : World) (P : Nat → Prop) (d : Nat) (bs : List (List UInt8 × Ty)) (xs : List Value) : Prop :=
 ∀ (j : Nat) (x : List UInt8 × Ty), bs[j]? = some x → ∃ u0 u1, xs[j * 3]? = some (.string ⟨x.1.toArray⟩) ∧ xs[j * 3 + 1]? = some u0 ∧ xs[j * 3 + 2]? = some u1 ∧ TyAt w P d (.agg #[u0, u1]) x.2
theorem ty_parts {w : World} {P : Nat → Prop} {d : Nat} {u0 u1 : Value} {t : Ty} (h : TyAt w P d (.agg #[u0, u1]) t) : ∃ A k, u0 = .int .i64 t.kind ∧ u1 = .slice A t.args.length k := by
 obtain ⟨A, k, hv⟩ := h.form
 injection hv with hv
 have := congrArg Array.toList hv
 injection this with e1 e2
 injection e2 with e2 _
 exact ⟨A, k, e1, e2⟩
theorem BTy.cells {w : World} {P : Nat → Prop} {d : Nat} {A : Option Addr} {bs : List (List UInt8 × Ty)} (h : BTy w P d A bs) (hnil : bs.length = 0 → A = none) : ∃ xs, CsAt w P A bs.length xs ∧ CsTy w P d bs xs := by
 by_cases h0 : 0 < bs.length
 · obtain ⟨b, o, rfl, hP, hc⟩ := h h0
   have hall : ∀ i, i < bs.length * 3 → ∃ u, w.cell? ⟨b, o + i, none⟩ = some u ∧ u.oneCell' = true := fun i hi => by
    obtain ⟨x, hx⟩ : ∃ x, bs[i / 3]? = some x := ⟨_, List.getElem?_eq_getElem (by omega)⟩
    obtain ⟨u0, u1, h1, h2, h3, h4⟩ := hc (i / 3) x hx
    obtain ⟨A6, k6, rfl, rfl⟩ := ty_parts h4
    rcases (show i = i / 3 * 3 ∨ i = i / 3 * 3 + 1 ∨ i = i / 3 * 3 + 2 by omega) with e | e | e
    · exact ⟨_, by rw [e]; exact h1, rfl⟩
    · exact ⟨_, by rw [e]; exact h2, rfl⟩
    · exact ⟨_, by rw [e]; exact h3, rfl⟩
   have hcl : ∀ i u, w.cell? ⟨b, o + i, none⟩ = some u → i < bs.length * 3 → ((List.range (bs.length * 3)).map fun i => (w.cell? ⟨b, o + i, none⟩).getD (.int .i64 0))[i]? = some u := fun i u hu hi => by
    rw [List.getElem?_map, List.getElem?_range hi]
    simp [hu]
   refine ⟨(List.range (bs.length * 3)).map fun i => (w.cell? ⟨b, o + i, none⟩).getD (.int .i64 0), ⟨by simp, fun u hu => ?_, .inr ⟨b, o, rfl, hP, fun j u hu => ?_⟩⟩, fun j x hx => ?_⟩
   · obtain ⟨i, hi, rfl⟩ := List.mem_map.1 hu
     obtain ⟨v, hv, h1⟩ := hall i (List.mem_range.1 hi)
     rw [hv]
     exact h1
   · have hj : j < bs.length * 3 := by simpa using (List.getElem?_eq_some_iff.1 hu).1
     obtain ⟨v, hv, _⟩ := hall j hj
     rw [hcl j v hv hj] at hu
     rw [hv, hu]
   · have hj := (List.getElem?_eq_some_iff.1 hx).1
     obtain ⟨u0, u1, h1, h2, h3, h4⟩ := hc j x hx
     exact ⟨u0, u1, hcl _ _ h1 (by omega), hcl _ _ h2 (by omega), hcl _ _ h3 (by omega), h4⟩
 · obtain rfl : bs = [] := List.length_eq_zero_iff.1 (by omega)
   exact ⟨[], ⟨rfl, by simp, .inl ⟨rfl, hnil rfl⟩⟩, fun j x hx => by simp at hx⟩
theorem CsTy.append {w : World} {P : Nat → Prop} {d : Nat} {bs0 bs : List (List UInt8 × Ty)} {xs ys : List Value} (h : CsTy w P d bs0 xs) (g : CsTy w P d bs ys) (hl : xs.length = bs0.length * 3) : CsTy w P d (bs0 ++ bs) (xs ++ ys) := fun j x hx => by
 rcases Nat.lt_or_ge j bs0.length with hj | hj
 · rw [List.getElem?_append_left hj] at hx
   obtain ⟨u0, u1, h1, h2, h3, h4⟩ := h j x hx
   exact ⟨u0, u1, by rw [List.getElem?_append_left (by omega)]; exact h1, by rw [List.getElem?_append_left (by omega)]; exact h2, by rw [List.getElem?_append_left (by omega)]; exact h3, h4⟩
 · rw [List.getElem?_append_right hj] at hx
   obtain ⟨u0, u1, h1, h2, h3, h4⟩ := g _ x hx
   refine ⟨u0, u1, ?_, ?_, ?_, h4⟩
   · rw [List.getElem?_append_right (by omega), show j * 3 - xs.length = (j - bs0.length) * 3 by omega]; exact h1
   · rw [List.getElem?_append_right (by omega), show j * 3 + 1 - xs.length = (j - bs0.length) * 3 + 1 by omega]; exact h2
   · rw [List.getElem?_append_right (by omega), show j * 3 + 2 - xs.length = (j - bs0.length) * 3 + 2 by omega]; exact h3
theorem CsTy.own {w : World} {P : Nat → Prop} {d base : Nat} {bs : List (List UInt8 × Ty)} {xs : List Value} {v : Value} (h : CsTy w P d bs xs) (ho : w.ownsRow base 160 3 v bs.length xs) (hP : ∀ g, v.ownBlock = some g → P g) : ∃ A k, v = .slice A bs.length k ∧ BTy w P d A bs := by
 rcases ho.2 with ⟨rfl, e⟩ | ⟨g, c, cur, rfl, hb, hh, hn, hc, hs, ht⟩
 · exact ⟨none, 0, by rw [e], fun hl => absurd hl (by omega)⟩
 · refine ⟨some ⟨g, 0, none⟩, c, rfl, fun hl => ⟨g, 0, rfl, hP g rfl, fun j x hx => ?_⟩⟩
   have hj := (List.getElem?_eq_some_iff.1 hx).1
   have hxl : xs.length = bs.length * 3 := ho.1
   have hcell : ∀ i u, xs[i]? = some u → w.cell? ⟨g, 0 + i, none⟩ = some u := fun i u hu => by
    have hi := (List.getElem?_eq_some_iff.1 hu).1
    rw [Nat.zero_add, ho.cellAt i (by omega)]
    exact hu
   obtain ⟨u0, u1, h1, h2, h3, h4⟩ := h j x hx
   exact ⟨u0, u1, hcell _ _ h1, hcell _ _ h2, hcell _ _ h3, h4⟩
end Go.Proofs.YtaecndmncpfpfaaGreatDoor
namespace Go.Proofs.YtaecndmncpfpfaaGreatDoor
open Go.RowKit
theorem CsAt.wider {w : World} {P P' : Nat → Prop} {A : Option Addr} {n : Nat} {xs : List Value} (h : CsAt w P A n xs) (hP : ∀ k, P k → P' k) : CsAt w P' A n xs :=
 ⟨h.1, h.2.1, h.2.2.imp id fun ⟨b, o, e, hp, hj⟩ => ⟨b, o, e, hP b hp, hj⟩⟩
theorem CsTy.mv {w w' : World} {P P' : Nat → Prop} {d e : Nat} {bs : List (List UInt8 × Ty)} {xs : List Value} (h : CsTy w P d bs xs) (hd : d ≤ e) (hk : ∀ k, P k → P' k ∧ w'.heap[k]? = w.heap[k]?) : CsTy w' P' e bs xs := fun j x hx => by
 obtain ⟨u0, u1, h1, h2, h3, h4⟩ := h j x hx
 exact ⟨u0, u1, h1, h2, h3, ty_more d e hd (h4.move fun b hb _ => ⟨(hk b hb).1, fun _ => World.cell?_of_block (hk b hb).2⟩)⟩
theorem args_mv {w w' : World} {P P' : Nat → Prop} {d : Nat} {A : Option Addr} {l : List Ty} (h : Knd.yE w P d A l) (hk : ∀ k, P k → P' k ∧ w'.heap[k]? = w.heap[k]?) : Knd.yE w' P' d A l := fun hl => by
 obtain ⟨b, o, h1, h2, h3⟩ := h hl
 exact ⟨b, o, h1, (hk b h2).1, fun j a ha => by
  obtain ⟨u0, u1, g0, g1, g2⟩ := h3 j a ha
  exact ⟨u0, u1, (World.cell?_of_block (hk b h2).2).trans g0, (World.cell?_of_block (hk b h2).2).trans g1, g2.move fun k hk' _ => ⟨(hk k hk').1, fun _ => World.cell?_of_block (hk k hk').2⟩⟩⟩
theorem WkI.named {w w4 : World} {W : Nat} {P Q : Nat → Prop} {it : Ty} {sides : List Ty} {names bs : List (List UInt8 × Ty)} {NA : Option Addr} {nk d g cap L : Nat} {AV : Value} {ps : List Int} {xs ys : List Value} (h : WkI w W P it sides names NA nk AV ps) (hL : L = (names ++ bs).length) (hQ : ∀ k, Q k → Fr w.heap.size W AV k) (hb : Below w.heap.size w w4)
    (hg : w.heap.size ≤ g) (hx : ∃ D, CsTy w P D names xs) (hy : CsTy w Q d bs ys) (ho : w4.ownsRow w.heap.size 160 3 (.slice (some ⟨g, 0, none⟩) L cap) L (xs ++ ys)) (hxl : xs.length = names.length * 3) :
    WkI (w4.setCell ⟨W, 3, none⟩ (.slice (some ⟨g, 0, none⟩) L cap)) W (fun k => P k ∨ Q k ∨ k = g) it sides (names ++ bs) (some ⟨g, 0, none⟩) cap AV ps := by
 subst hL
 have hWl := h.lt
 have hgl := ho.lt g rfl
 obtain ⟨d0, hWA⟩ := h.walk
 obtain ⟨A1, k1, SA, sk, hbx, hT, hS⟩ := hWA.box
 obtain ⟨D, hx⟩ := hx
 have far : ∀ k, k < w.heap.size → k ≠ W → (w4.setCell ⟨W, 3, none⟩ (.slice (some ⟨g, 0, none⟩) (names ++ bs).length cap)).heap[k]? = w.heap[k]? := fun k hk hne => (Below.heap_setCell _ _ _ _ (by show k ≠ W; exact hne)).trans (hb.block k hk)
 have kp : ∀ k, P k → (P k ∨ Q k ∨ k = g) ∧ (w4.setCell ⟨W, 3, none⟩ (.slice (some ⟨g, 0, none⟩) (names ++ bs).length cap)).heap[k]? = w.heap[k]? := fun k hk => ⟨.inl hk, far k (h.sep k hk).1 (h.sep k hk).2.1⟩
 have kq : ∀ k, Q k → (P k ∨ Q k ∨ k = g) ∧ (w4.setCell ⟨W, 3, none⟩ (.slice (some ⟨g, 0, none⟩) (names ++ bs).length cap)).heap[k]? = w.heap[k]? := fun k hk => ⟨.inr (.inl hk), far k (hQ k hk).1 (hQ k hk).2.1⟩
 have hs5 : w4.heap.size ≤ (w4.setCell ⟨W, 3, none⟩ (.slice (some ⟨g, 0, none⟩) (names ++ bs).length cap)).heap.size := by simp [World.setCell]
 have hbs := hb.size
 have sep : ∀ k, P k ∨ Q k ∨ k = g → Fr (w4.setCell ⟨W, 3, none⟩ (.slice (some ⟨g, 0, none⟩) (names ++ bs).length cap)).heap.size W AV k := fun k hk => by
  rcases hk with hk | hk | rfl
  · exact ⟨by have := (h.sep k hk).1; omega, (h.sep k hk).2⟩
  · exact ⟨by have := (hQ k hk).1; omega, (hQ k hk).2⟩
  · exact ⟨by omega, by omega, fun e => by have := (h.own.lt _ e.symm).2; omega⟩
 have hgW : g ≠ W := by omega
 have hown5 := ho.kept (row := some W) (set1_grown (C := W) (o := 3) (x := .slice (some ⟨g, 0, none⟩) (names ++ bs).length cap)) (.inr fun e => hgW (by simpa [Value.ownBlock] using e))
 obtain ⟨A', k', hv, hBT⟩ := CsTy.own (P := fun k => P k ∨ Q k ∨ k = g) (((hx.mv (Nat.le_max_left D d) kp).append (hy.mv (Nat.le_max_right D d) kq) hxl)) hown5 (fun b hb => .inr (.inr (by injection hb with hb; exact hb.symm)))
 injection hv with hv1 _ hv2
 subst hv1
 refine ⟨⟨max d0 (max D d), ⟨⟨A1, k1, SA, sk, ?_, ty_more _ _ (Nat.le_max_left _ _) (hT.move fun k hk _ => ⟨(kp k hk).1, fun _ => World.cell?_of_block (kp k hk).2⟩), args_more (Nat.le_max_left _ _) (args_mv hS kp)⟩, fun hl => ?_, fun k hk => ⟨(sep k hk).1, (sep k hk).2.1⟩⟩⟩, sep, ?_, h.glob.kept (far _ (by have := h.low; omega) (by have := h.low; omega)), h.low⟩
 · exact Bxs.set (vs := #[.int .i64 it.kind, .slice A1 it.args.length k1, .slice SA sides.length sk, .slice NA names.length nk, AV]) ((hb.block W hWl).trans hbx) 3 _
 · obtain ⟨b, o, e, hp, hc⟩ := hBT hl
   exact ⟨b, o, e, hp, fun j x hx => by
    obtain ⟨u0, u1, h1, h2, h3, h4⟩ := hc j x hx
    exact ⟨u0, u1, h1, h2, h3, ty_more _ _ (Nat.le_max_right _ _) h4⟩⟩
 · exact (h.own.kept (row := none) ⟨hb.os, hb.tape, hb.output, hb.size, fun k hk _ => hb.block k hk⟩ (Classical.em _)).kept (row := some W) set1_grown (.inr fun e => by have := (h.own.lt W e).1; omega)
end Go.Proofs.YtaecndmncpfpfaaGreatDoor
namespace Go.Proofs.YtaecndmncpfpfaaGreatDoor
open Go.RowKit
def WnOut (w w' : World) (W : Nat) (P Q : Nat → Prop) (it : Ty) (sides : List Ty) (names : List (List UInt8 × Ty)) (NA : Option Addr) (nk : Nat) (AV : Value) (ps : List Int) (e : Ending) : Except (Int × List Int) Ty → Prop
 | .ok t => ∃ AV' v d, e = .returned (.tuple #[v, .int .i64 0]) ∧ TyAt w' (fun k => P k ∨ Q k ∨ (w.heap.size ≤ k ∧ k < w'.heap.size ∧ some k ≠ AV'.ownBlock)) d v t ∧ WkI w' W P it sides names NA nk AV' ps ∧ WkS w w' W AV AV'
 | .error (no, qs) => no ≠ 0 ∧ ∃ AV', e = .returned (.tuple #[.agg #[.int .i64 0, .slice none 0 0], .int .i64 no]) ∧ WkI w' W P it sides names NA nk AV' qs ∧ WkS w w' W AV AV'
theorem wn_end {w w5 w9 w12 : World} {W : Nat} {P P' : Nat → Prop} {it : Ty} {sides : List Ty} {names names' : List (List UInt8 × Ty)} {NA NA' : Option Addr} {nk nk' : Nat} {AV AV9 a0 b0 c0 v5 : Value} {ps qs : List Int}
    (h : WkI w W P it sides names NA nk AV ps) (hbx : w.heap[W]? = some (.cells #[a0, b0, c0, .slice NA names.length nk, AV] 79 (0, 0))) (far5 : ∀ k, k < w.heap.size → k ≠ W → w5.heap[k]? = w.heap[k]?) (box5 : w5.heap[W]? = some (.cells #[a0, b0, c0, v5, AV] 79 (0, 0))) (s5 : w.heap.size + 3 ≤ w5.heap.size) (o5 : w5.os = w.os ∧ w5.output = w.output ∧ w5.tape = w.tape)
    (hs : WkS w5 w9 W AV AV9) (h9 : WkI w9 W P' it sides names' NA' nk' AV9 qs) (far12 : ∀ b, b < w9.heap.size → b ≠ W → b ≠ w.heap.size + 1 → w12.heap[b]? = w9.heap[b]?) (box12 : ∀ a b c d e, w9.heap[W]? = some (.cells #[a, b, c, d, e] 79 (0, 0)) → w12.heap[W]? = some (.cells #[a, b, c, .slice NA names.length nk, e] 79 (0, 0))) (s12 : w9.heap.size ≤ w12.heap.size) (o12 : w12.os = w9.os ∧ w12.output = w9.output ∧ w12.tape = w9.tape) :
    WkI w12 W P it sides names NA nk AV9 qs ∧ WkS w w12 W AV AV9 := by
 have hs9 := hs.size
 have hWl := h.lt
 have hst : WkS w w12 W AV AV9 := ⟨o12.1.trans (hs.os.trans o5.1), o12.2.2.trans (hs.tape.trans o5.2.2), o12.2.1.trans (hs.output.trans o5.2.1), by omega, fun k hk hW hA => (far12 k (by omega) hW (by omega)).trans ((hs.block k (by omega) hW hA).trans (far5 k hk hW)), hs.own.imp id fun e g hg => by have := e g hg; omega, fun a b c d h0 => by
  have e := Option.some.inj (h0.symm.trans hbx)
  injection e with e1
  have e2 := congrArg Array.toList e1
  simp only [List.cons.injEq, and_true] at e2
  obtain ⟨rfl, rfl, rfl, rfl⟩ := e2
  exact box12 _ _ _ _ _ (hs.box _ _ _ _ box5)⟩
 refine ⟨h.step hst hst.box ⟨h9.own.1, h9.own.2.imp id ?_⟩, hst⟩
 rintro ⟨g, c, cur, e, hb, hh, r⟩
 refine ⟨g, c, cur, e, hb, (far12 g (zC hh) (by omega) (fun e' => ?_)).trans hh, r⟩
 rcases hs.own with e3 | e3
 · have := (h.own.lt g (by rw [← e3, e]; rfl)).2
   omega
 · have := e3 g (by rw [e]; rfl)
   omega
set_option maxRecDepth 100000 in
set_option maxHeartbeats 1000000 in
theorem within_any (W : Nat) (P Q S : Nat → Prop) (it : Ty) (sides : List Ty) (names bs : List (List UInt8 × Ty)) (NA BA : Option Addr) (nk bk d : Nat) (AV : Value) (ps : List Int) (nv : Value) (n : Nd) (dn : Nat) (r : Except (Int × List Int) Ty) (w : World)
    (hW : WkI w W P it sides names NA nk AV ps) (hnl : names.length ≤ 500) (hnil : names.length = 0 → NA = none ∧ nk = 0) (hbl : bs.length ≤ 10) (hb0 : 0 < bs.length) (hB : BTy w Q d BA bs) (hQ : ∀ k, Q k → Fr w.heap.size W AV k) (hk0 : 0 < n.kids.length) (hk1 : n.kids.length ≤ 64) (hn : NdAt w S (dn + 1) nv n) (hS : ∀ k, S k → Fr w.heap.size W AV k)
    (hK : ∀ (g cap : Nat) (w1 : World), WkI w1 W (fun k => P k ∨ Q k ∨ k = g) it sides (names ++ bs) (some ⟨g, 0, none⟩) cap AV ps → NdAt w1 S (dn + 1) nv n → (∀ k, S k → Fr w1.heap.size W AV k) →
      Calls Tryz.prog 93 #[.pointer (some ⟨W, 0, none⟩), nv, .int .i64 ((n.kids.length : Int) - 1)] w1 fun e w2 => InOut w1 w2 W (fun k => P k ∨ Q k ∨ k = g) it sides (names ++ bs) (some ⟨g, 0, none⟩) cap AV ps e r) :
    Calls Tryz.prog 94 #[.pointer (some ⟨W, 0, none⟩), nv, .slice BA bs.length bk] w fun e w' => WnOut w w' W P Q it sides names NA nk AV ps e r := by
 have HN := Lib.hid hn
 obtain ⟨A, c, K, k, rfl⟩ := hn.form
 have hWl := hW.lt
 obtain ⟨d0, hWA⟩ := hW.walk
 obtain ⟨A1, k1, SA, sk, hb, hT, hSd⟩ := hWA.box
 have HW := Lib.hid hW
 have HB := Lib.hid hb
 have HS := Lib.hid hS
 have hb1 := (Below.refl w.heap.size w).alloc (Nat.le_refl _) (.cells #[.string ⟨n.op.toArray⟩, .int .i64 n.int, .string ⟨n.text.toArray⟩, .int .i64 n.ty.kind, .slice A n.ty.args.length c, .slice K n.kids.length k] 41)
 have c3 := zD (i := 3) ((hb1.block W hWl).trans hb) rfl
 obtain ⟨xs, hxs, hxt⟩ := BTy.cells (show BTy w P d0 NA names from hWA.names) (fun h => (hnil h).1)
 obtain ⟨ys, hys, hyt⟩ := BTy.cells hB (fun h => absurd h (by omega))
 obtain ⟨w3, hw3⟩ : ∃ w3, ((w.alloc (.cells #[.string ⟨n.op.toArray⟩, .int .i64 n.int, .string ⟨n.text.toArray⟩, .int .i64 n.ty.kind, .slice A n.ty.args.length c, .slice K n.kids.length k] 41)).alloc (.cells #[.int .i64 0, .slice none 0 0] 34)).alloc (.cells #[.slice NA names.length nk, .slice BA bs.length bk] 77) = w3 := ⟨_, rfl⟩
 have hb3 : Below w.heap.size w w3 := by
  rw [← hw3]
  exact ((((Below.refl w.heap.size w).alloc (Nat.le_refl _) _).alloc (by simp) _).alloc (by simp; omega) _)
 have hs3 : w3.heap.size = w.heap.size + 3 := by rw [← hw3]; simp
 have h32 : w3.heap[w.heap.size + 1 + 1]? = some (.cells #[.slice NA names.length nk, .slice BA bs.length bk] 77 (0, 0)) := by
  have h := heap_alloc_new ((w.alloc (.cells #[.string ⟨n.op.toArray⟩, .int .i64 n.int, .string ⟨n.text.toArray⟩, .int .i64 n.ty.kind, .slice A n.ty.args.length c, .slice K n.kids.length k] 41)).alloc (.cells #[.int .i64 0, .slice none 0 0] 34)) (.cells #[.slice NA names.length nk, .slice BA bs.length bk] 77)
  rw [hw3] at h
  simp only [World.size_alloc] at h
  exact h
 have h31 : w3.heap[w.heap.size + 1]? = some (.cells #[.int .i64 0, .slice none 0 0] 34 (0, 0)) := by
  rw [← hw3]
  exact (Below.heap_alloc _ _ _ (by simp)).trans (by simpa using heap_alloc_new (w.alloc (.cells #[.string ⟨n.op.toArray⟩, .int .i64 n.int, .string ⟨n.text.toArray⟩, .int .i64 n.ty.kind, .slice A n.ty.args.length c, .slice K n.kids.length k] 41)) (.cells #[.int .i64 0, .slice none 0 0] 34))
 have h30 : w3.heap[w.heap.size]? = some (.cells #[.string ⟨n.op.toArray⟩, .int .i64 n.int, .string ⟨n.text.toArray⟩, .int .i64 n.ty.kind, .slice A n.ty.args.length c, .slice K n.kids.length k] 41 (0, 0)) := by
  rw [← hw3]
  exact (Below.heap_alloc _ _ _ (by simp; omega)).trans ((Below.heap_alloc _ _ _ (by simp)).trans (heap_alloc_new w _))
 have hP := fun k hk => (HW.out.sep k hk).1
 have HCC := Lib.hid (concatBd_any (w.heap.size + 1 + 1) (fun k => k < w.heap.size) NA BA names.length bs.length nk bk xs ys w3 (zD (i := 0) h32 rfl) (zD (i := 1) h32 rfl) (by omega) (by omega) hb0 (fun k hk => by omega) ((hxs.below hP hb3).wider hP) (fun h => (hnil h).2) ((hys.below (fun k hk => (hQ k hk).1) hb3).wider (fun k hk => (hQ k hk).1)))
 have HXL := Lib.hid hxs.1
 have HXT := Lib.hid hxt
 have HYT := Lib.hid hyt
 have HQ := Lib.hid hQ
 have HK := Lib.hid hK
 have HB3 := Lib.hid hb3
 clear hb hS hn hT hSd hxs hys hxt hyt hQ hK hb3 h32 hP hB hnil hWA hb1
 go_enter Tryz.func94, Tryz.ntmps94
 go_wp2_with (fail)
 clear hw3
 refine HCC.out.mono ?_
 rintro e w4 ⟨v4, rfl, ho4, hb4⟩
 obtain ⟨L, hL⟩ : ∃ L, L = (names ++ bs).length := ⟨_, rfl⟩
 have hlb : L = names.length + bs.length := by rw [hL]; exact List.length_append
 rw [← hlb] at ho4
 obtain ⟨q, hq⟩ : ∃ q, L = q + 1 := ⟨names.length + bs.length - 1, by omega⟩
 obtain ⟨g, cap, rfl⟩ : ∃ g cap, v4 = .slice (some ⟨g, 0, none⟩) L cap := by
  rw [hq] at ho4 ⊢
  exact ownsRow_succ ho4
 have hgl := ho4.lt g rfl
 have ho5 : w4.ownsRow w.heap.size 160 3 (.slice (some ⟨g, 0, none⟩) L cap) L (xs ++ ys) :=
  ⟨ho4.1, ho4.2.imp id fun ⟨g, c, cur, e, hb, r⟩ => ⟨g, c, cur, e, by omega, r⟩⟩
 have hb34 := HB3.out.trans (hb4.mono HB3.out.size)
 have HNM := Lib.hid (HW.out.named hL HQ.out hb34 (g := g) (by omega) ⟨_, HXT.out⟩ HYT.out ho5 HXL.out)
 have hs34 := hb34.size
 have hs4 := hb4.size
 have far : ∀ k, k < w.heap.size → k ≠ W → (w4.setCell ⟨W, 3, none⟩ (.slice (some ⟨g, 0, none⟩) L cap)).heap[k]? = w.heap[k]? := fun k hk hne => (Below.heap_setCell _ _ _ _ (by show k ≠ W; exact hne)).trans (hb34.block k hk)
 have hs5 : w4.heap.size ≤ (w4.setCell ⟨W, 3, none⟩ (.slice (some ⟨g, 0, none⟩) L cap)).heap.size := by simp [World.setCell]
 have HKK := Lib.hid (HK.out g cap _ HNM.out (HN.out.move fun b hb _ => ⟨hb, fun _ => World.cell?_of_block (far b (HS.out b hb).1 (HS.out b hb).2.1)⟩) (fun k hk => ⟨by have := (HS.out k hk).1; omega, (HS.out k hk).2⟩))
 have e4 := (hb34.block W hWl).trans HB.out
 have x3 := zD (i := 3) e4 rfl
 have f3 := zI (i := 3) e4
 have n30 := (Below.heap_setCell w4 ⟨W, 3, none⟩ (.slice (some ⟨g, 0, none⟩) L cap) w.heap.size (by show w.heap.size ≠ W; omega)).trans ((hb4.block _ (by omega)).trans h30)
 have HR5 := Lib.hid ((Below.heap_setCell w4 ⟨W, 3, none⟩ (.slice (some ⟨g, 0, none⟩) L cap) (w.heap.size + 1) (by show w.heap.size + 1 ≠ W; omega)).trans ((hb4.block _ (by omega)).trans h31))
 have HX5 := Lib.hid (Bxs.set (vs := #[.int .i64 it.kind, .slice A1 it.args.length k1, .slice SA sides.length sk, .slice NA names.length nk, AV]) e4 3 (.slice (some ⟨g, 0, none⟩) L cap))
 have HFAR := Lib.hid far
 have HOWL : Hid (∀ g, AV.ownBlock = some g → g < w.heap.size) := fun g hg => (HW.out.own.lt g hg).2
 have m0 := zD (i := 0) n30 rfl
 have m1 := zD (i := 1) n30 rfl
 have m2 := zD (i := 2) n30 rfl
 have m3 := zD (i := 3) n30 rfl
 have m4 := zD (i := 4) n30 rfl
 have m5 := zD (i := 5) n30 rfl
 have l1 : IntKind.i64.wrap ((n.kids.length : Int) - 1) = (n.kids.length : Int) - 1 := IntWalk.i64_in _ (by omega)
 have HO5 := Lib.hid ho5
 have HB34 := Lib.hid hb34
 have HLB := Lib.hid hL
 have hog : w.heap.size + 3 ≤ g := by omega
 clear far h31 hL ho4 ho5 hb34 hb4 hq hlb e4 n30 h30 HCC
 go_wp2_with (fail)
 refine HKK.out.mono ?_
 rintro e w9 ho
 cases r with
 | ok t =>
   obtain ⟨AV9, v, d9, rfl, hT9, hWI, hWS⟩ := ho
   obtain ⟨A6, k6, rfl⟩ := hT9.form
   have hs9 := hWS.size
   have hw5 : w.heap.size + 3 ≤ (w4.setCell ⟨W, 3, none⟩ (.slice (some ⟨g, 0, none⟩) L cap)).heap.size := by omega
   have hr9 := (hWS.block (w.heap.size + 1) (by omega) (by omega) (fun e => by have := HOWL.out _ e.symm; omega)).trans HR5.out
   have hx9 := hWS.box _ _ _ _ HX5.out
   have hr10 := (Below.heap_alloc w9 (.cells #[.int .i64 t.kind, .slice A6 t.args.length k6] 34) _ (zC hr9)).trans hr9
   have hx10 := (Below.heap_alloc w9 (.cells #[.int .i64 t.kind, .slice A6 t.args.length k6] 34) W (zC hx9)).trans hx9
   have hn10 := heap_alloc_new w9 (.cells #[.int .i64 t.kind, .slice A6 t.args.length k6] 34)
   have hn11 := (Below.heap_setCell _ ⟨W, 3, none⟩ (.slice NA names.length nk) w9.heap.size (by show w9.heap.size ≠ W; omega)).trans hn10
   have hr11 := (Below.heap_setCell _ ⟨W, 3, none⟩ (.slice NA names.length nk) (w.heap.size + 1) (by show w.heap.size + 1 ≠ W; omega)).trans hr10
   have y3 := zD (i := 3) hx10 rfl
   have yf := zI (i := 3) hx10
   have q0 := zD (i := 0) hn11 rfl
   have q1 := zD (i := 1) hn11 rfl
   have r0 := zD (i := 0) hr11 rfl
   have r1 := zD (i := 1) hr11 rfl
   have s0 := zI (i := 0) hr11
   have s1 := zI (i := 1) hr11
   have HT9 := Lib.hid hT9
   have HWI := Lib.hid hWI
   have HWS := Lib.hid hWS
   clear hT9 hWI hWS hr9 hx9 hr10 hx10 hn10 hn11 hr11 m0 m1 m2 m3 m4 m5 x3 f3
   go_wp2_with (fail)
   refine bodyPost_ret (v := .tuple #[.agg #[.int .i64 t.kind, .slice A6 t.args.length k6], .int .i64 0]) (by simp [results, Tryz.results94, go_sem, r0, r1]) rfl ?_
   have far12 : ∀ b, b < w9.heap.size → b ≠ W → b ≠ w.heap.size + 1 → ((((w9.alloc (.cells #[.int .i64 t.kind, .slice A6 t.args.length k6] 34)).setCell ⟨W, 3, none⟩ (.slice NA names.length nk)).setCell ⟨w.heap.size + 1, 0, none⟩ (.int .i64 t.kind)).setCell ⟨w.heap.size + 1, 1, none⟩ (.slice A6 t.args.length k6)).heap[b]? = w9.heap[b]? := fun b hb hne hn1 => by
    rw [Below.heap_setCell _ _ _ _ (by show b ≠ w.heap.size + 1; exact hn1), Below.heap_setCell _ _ _ _ (by show b ≠ w.heap.size + 1; exact hn1), Below.heap_setCell _ _ _ _ (by show b ≠ W; exact hne)]
    exact Below.heap_alloc w9 _ b hb
   have s12 : w9.heap.size ≤ ((((w9.alloc (.cells #[.int .i64 t.kind, .slice A6 t.args.length k6] 34)).setCell ⟨W, 3, none⟩ (.slice NA names.length nk)).setCell ⟨w.heap.size + 1, 0, none⟩ (.int .i64 t.kind)).setCell ⟨w.heap.size + 1, 1, none⟩ (.slice A6 t.args.length k6)).heap.size := by simp [World.setCell]
   have hE := wn_end HW.out HB.out HFAR.out HX5.out hw5 ⟨HB34.out.os, HB34.out.output, HB34.out.tape⟩ HWS.out HWI.out far12 (fun a b c d e h => by
    rw [Below.heap_setCell _ _ _ _ (by show W ≠ w.heap.size + 1; omega), Below.heap_setCell _ _ _ _ (by show W ≠ w.heap.size + 1; omega)]
    exact Bxs.set (vs := #[a, b, c, d, e]) ((Below.heap_alloc w9 _ W (by omega)).trans h) 3 _) s12 ⟨rfl, rfl, rfl⟩
   have hg4 : g < w4.heap.size := hgl.2
   refine ⟨AV9, _, d9, rfl, HT9.out.move fun b hb _ => ?_, hE.1, hE.2⟩
   rcases hb with (hb | hb | rfl) | ⟨h1, h2, h3⟩
   · exact ⟨.inl hb, fun _ => World.cell?_of_block (far12 b (by have := (HW.out.sep b hb).1; omega) (HW.out.sep b hb).2.1 (by have := (HW.out.sep b hb).1; omega))⟩
   · exact ⟨.inr (.inl hb), fun _ => World.cell?_of_block (far12 b (by have := (HQ.out b hb).1; omega) (HQ.out b hb).2.1 (by have := (HQ.out b hb).1; omega))⟩
   · exact ⟨.inr (.inr ⟨by omega, by omega, fun e => by
       rcases HWS.out.own with e3 | e3
       · have := HOWL.out b (by rw [← e3, ← e])
         omega
       · have := e3 b e.symm
         omega⟩), fun _ => World.cell?_of_block (far12 b (by omega) (by omega) (by omega))⟩
   · exact ⟨.inr (.inr ⟨by omega, by omega, h3⟩), fun _ => World.cell?_of_block (far12 b h2 (by omega) (by omega))⟩
 | error x =>
   obtain ⟨no, qs⟩ := x
   obtain ⟨hno, AV9, rfl, hWI, hWS⟩ := ho
   have hs9 := hWS.size
   have hw5 : w.heap.size + 3 ≤ (w4.setCell ⟨W, 3, none⟩ (.slice (some ⟨g, 0, none⟩) L cap)).heap.size := by omega
   have hr9 := (hWS.block (w.heap.size + 1) (by omega) (by omega) (fun e => by have := HOWL.out _ e.symm; omega)).trans HR5.out
   have hx9 := hWS.box _ _ _ _ HX5.out
   have hr10 := (Below.heap_alloc w9 (.cells #[.int .i64 0, .slice none 0 0] 34) _ (zC hr9)).trans hr9
   have hx10 := (Below.heap_alloc w9 (.cells #[.int .i64 0, .slice none 0 0] 34) W (zC hx9)).trans hx9
   have hn10 := heap_alloc_new w9 (.cells #[.int .i64 0, .slice none 0 0] 34)
   have hn11 := (Below.heap_setCell _ ⟨W, 3, none⟩ (.slice NA names.length nk) w9.heap.size (by show w9.heap.size ≠ W; omega)).trans hn10
   have hr11 := (Below.heap_setCell _ ⟨W, 3, none⟩ (.slice NA names.length nk) (w.heap.size + 1) (by show w.heap.size + 1 ≠ W; omega)).trans hr10
   have y3 := zD (i := 3) hx10 rfl
   have yf := zI (i := 3) hx10
   have q0 := zD (i := 0) hn11 rfl
   have q1 := zD (i := 1) hn11 rfl
   have r0 := zD (i := 0) hr11 rfl
   have r1 := zD (i := 1) hr11 rfl
   have s0 := zI (i := 0) hr11
   have s1 := zI (i := 1) hr11
   have HWI := Lib.hid hWI
   have HWS := Lib.hid hWS
   clear hWI hWS hr9 hx9 hr10 hx10 hn10 hn11 hr11 m0 m1 m2 m3 m4 m5 x3 f3
   go_wp2_with (fail)
   refine bodyPost_ret (v := .tuple #[.agg #[.int .i64 0, .slice none 0 0], .int .i64 no]) (by simp [results, Tryz.results94, go_sem, r0, r1]) rfl ?_
   have far12 : ∀ b, b < w9.heap.size → b ≠ W → b ≠ w.heap.size + 1 → ((((w9.alloc (.cells #[.int .i64 0, .slice none 0 0] 34)).setCell ⟨W, 3, none⟩ (.slice NA names.length nk)).setCell ⟨w.heap.size + 1, 0, none⟩ (.int .i64 0)).setCell ⟨w.heap.size + 1, 1, none⟩ (.slice none 0 0)).heap[b]? = w9.heap[b]? := fun b hb hne hn1 => by
    rw [Below.heap_setCell _ _ _ _ (by show b ≠ w.heap.size + 1; exact hn1), Below.heap_setCell _ _ _ _ (by show b ≠ w.heap.size + 1; exact hn1), Below.heap_setCell _ _ _ _ (by show b ≠ W; exact hne)]
    exact Below.heap_alloc w9 _ b hb
   have s12 : w9.heap.size ≤ ((((w9.alloc (.cells #[.int .i64 0, .slice none 0 0] 34)).setCell ⟨W, 3, none⟩ (.slice NA names.length nk)).setCell ⟨w.heap.size + 1, 0, none⟩ (.int .i64 0)).setCell ⟨w.heap.size + 1, 1, none⟩ (.slice none 0 0)).heap.size := by simp [World.setCell]
   have hE := wn_end HW.out HB.out HFAR.out HX5.out hw5 ⟨HB34.out.os, HB34.out.output, HB34.out.tape⟩ HWS.out HWI.out far12 (fun a b c d e h => by
    rw [Below.heap_setCell _ _ _ _ (by show W ≠ w.heap.size + 1; omega), Below.heap_setCell _ _ _ _ (by show W ≠ w.heap.size + 1; omega)]
    exact Bxs.set (vs := #[a, b, c, d, e]) ((Below.heap_alloc w9 _ W (by omega)).trans h) 3 _) s12 ⟨rfl, rfl, rfl⟩
   exact ⟨hno, AV9, rfl, hE.1, hE.2⟩
