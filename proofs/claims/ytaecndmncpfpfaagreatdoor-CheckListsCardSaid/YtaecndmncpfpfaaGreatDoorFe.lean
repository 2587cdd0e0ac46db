/-
CheckLists: the plain part.
-/
import Derived.Test.YtaecndmncpfpfaaGreatDoorFk
import Derived.Test.YtaecndmncpfpfaaGreatDoorFc
import Derived.KernelRfl
import Derived.Test.YtaecndmncpfpfaaGreatDoorCw
set_option linter.unusedVariables false
set_option linter.unusedSimpArgs false
namespace Go.Proofs.YtaecndmncpfpfaaGreatDoor.L5
open Go.RowKit
def ndL (n : Nd) (m : Nat) : Nd := .mk [108, 105, 115, 116] 0 [] ty0 (List.replicate m n)
def ndLen (l : Nd) : Nd := .mk [108, 101, 110] 0 [] ty0 [l]
theorem forms_list (n : Nd) (m : Nat) : formsT (ndL n m) = [List.replicate m mA ++ [tL]] := by
  have h : formsT (ndL n m) = [List.replicate (List.replicate m n).length mA ++ [tL]] := by kernel_rfl
  rw [h, List.length_replicate]
theorem forms_len (l : Nd) : formsT (ndLen l) = [[tL, tN]] := by kernel_rfl
theorem rt_kind0 {t : Ty} (h : RT t) : t.kind ≠ 0 := fun h0 => by
  obtain ⟨q, hq⟩ := Option.isSome_iff_exists.1 h
  obtain ⟨x, hx, _⟩ := Knd.measure_right hq
  rw [h0] at hx
  exact absurd hx (by rw [show Knd.wordK 0 = none by decide]; simp)
theorem rt_same {t : Ty} (h : RT t) : Knd.sameT t t = true := by
  obtain ⟨q, hq⟩ := Option.isSome_iff_exists.1 h
  unfold Knd.sameT
  rw [h, Knd.eqT_self 6 t q hq]
  rfl
theorem fits_a (r : Nat) {t : Ty} (ht : RT t) (c : Ty × Ty) (hc : c.1.kind = 0 ∨ c.1 = t) : fitsT (r + 1) c mA t = ((t, c.2), true) := by
  unfold fitsT
  rw [if_pos (show mA.kind = -1 from rfl)]
  rcases hc with hc | hc
  · rw [if_pos hc, if_pos hc, rt_same ht]
  · rw [if_neg (by rw [hc]; exact rt_kind0 ht), if_neg (by rw [hc]; exact rt_kind0 ht), hc, rt_same ht, ← hc]
theorem fitsL_step {f : Ty × Ty → Ty → Ty → (Ty × Ty) × Bool} {c c' : Ty × Ty} {w t : Ty} {ws ts : List Ty} (h : f c w t = (c', true)) : fitsL f c (w :: ws) (t :: ts) = fitsL f c' ws ts := by
  rw [fitsL, h]
theorem fits_rep (r : Nat) {t : Ty} (ht : RT t) : ∀ (m : Nat) (c : Ty × Ty), (c.1.kind = 0 ∨ c.1 = t) → fitsL (fitsT (r + 1)) c (List.replicate (m + 1) mA) (List.replicate (m + 1) t) = ((t, c.2), true)
  | 0, c, hc => fitsL_step (fits_a r ht c hc)
  | m + 1, c, hc => (fitsL_step (ws := List.replicate (m + 1) mA) (ts := List.replicate (m + 1) t) (fits_a r ht c hc)).trans (fits_rep r ht m (t, c.2) (.inr rfl))
theorem come_list {t : Ty} (ht : RT t) (m : Nat) : comeF (List.replicate (m + 1) t) [List.replicate (m + 1) mA ++ [tL]] = if (Knd.measureT 6 (.mk 7 [t])).isSome then some (.mk 7 [t]) else none := by
  have hd : (List.replicate (m + 1) mA ++ [tL]).dropLast = List.replicate (m + 1) mA := List.dropLast_concat
  have hl : (List.replicate (m + 1) mA ++ [tL]).getLastD ty0 = tL := by simp
  have hf : fitsA (fitsT 9) (ty0, ty0) (List.replicate (m + 1) mA) (List.replicate (m + 1) t) = ((t, ty0), true) := by
    unfold fitsA
    rw [if_pos (by simp)]
    exact fits_rep 8 ht m (ty0, ty0) (.inl rfl)
  have hfill : fillT 9 (t, ty0) tL = .mk 7 [t] := rfl
  unfold comeF
  rw [hd, hl, hf, if_pos rfl, hfill]
theorem come_len {t : Ty} (ht : RT t) : comeF [.mk 7 [t]] [[tL, tN]] = some (mkT 2) := by
  have hf : fitsA (fitsT 9) (ty0, ty0) [tL] [.mk 7 [t]] = ((t, ty0), true) := by
    have h1 : fitsT 9 (ty0, ty0) tL (.mk 7 [t]) = ((t, ty0), true) := by
      have e : fitsT 9 (ty0, ty0) tL (.mk 7 [t]) = fitsA (fitsT 8) (ty0, ty0) [mA] [t] := rfl
      rw [e]
      unfold fitsA
      rw [if_pos (show [mA].length = [t].length from rfl)]
      exact fits_rep 7 ht 0 (ty0, ty0) (.inl rfl)
    unfold fitsA
    rw [if_pos (show [tL].length = [Ty.mk 7 [t]].length from rfl)]
    exact fitsL_step h1
  have e1 : ([tL, tN] : List Ty).dropLast = [tL] := rfl
  have e2 : ([tL, tN] : List Ty).getLastD ty0 = tN := rfl
  unfold comeF
  rw [e1, e2, hf, if_pos rfl]
  rfl
theorem kidsR_rep {f : Nat → Except (Int × List Int) Ty} {t : Ty} : ∀ (m i : Nat), (∀ j, i ≤ j → j < i + m → f j = .ok t) → kidsR f m i = .ok (List.replicate m t)
  | 0, _, _ => rfl
  | m + 1, i, h => by
    unfold kidsR
    rw [h i (Nat.le_refl _) (by omega), kidsR_rep m (i + 1) (fun j h1 h2 => h j (by omega) (by omega))]
    rfl
theorem res_list {it : Ty} {sides : List Ty} {n : Nd} {t : Ty} (m : Nat) (h : InfOk FOk 23 n) (hr : resI it sides n = .ok t) (ht : RT t) : resI it sides (ndL n (m + 1)) = optR 50 [] (if (Knd.measureT 6 (.mk 7 [t])).isSome then some (.mk 7 [t]) else none) := by
  have e : resI it sides (ndL n (m + 1)) = comeR [] (formsT (ndL n (m + 1))) (kidsR (fun i => inferT formsT it sides 23 [] ([] ++ [(i : Int)]) (kidN (ndL n (m + 1)) i)) (List.replicate (m + 1) n).length 0) := by
    unfold resI
    rw [show (24 : Nat) = 23 + 1 from rfl]
    unfold inferT
    rw [if_neg (by show ¬ ([108, 105, 115, 116] : List UInt8) = _; decide), if_neg (by show ¬ ([108, 105, 115, 116] : List UInt8) = _; decide), if_neg (by show ¬ ([108, 105, 115, 116] : List UInt8) = _; decide), if_neg (by show ¬ ([108, 105, 115, 116] : List UInt8) = _; decide), if_neg (by show ¬ (([108, 105, 115, 116] : List UInt8) = _ ∨ ([108, 105, 115, 116] : List UInt8) = _); decide), if_neg (by show ¬ ([108, 105, 115, 116] : List UInt8) = _; decide)]
    rfl
  rw [e, forms_list, List.length_replicate, kidsR_rep (t := t) (m + 1) 0 (fun j h1 h2 => by
    have hk : kidN (ndL n (m + 1)) j = n := by
      show ((List.replicate (m + 1) n)[j]?).getD nd0 = n
      rw [List.getElem?_replicate, if_pos (by omega)]
      rfl
    rw [hk]
    show inferT formsT it sides 23 [] [(j : Int)] n = _
    rw [infer_kid _ h, hr]
    rfl)]
  show optR 50 [] (comeF (List.replicate (m + 1) t) [List.replicate (m + 1) mA ++ [tL]]) = _
  rw [come_list ht]
theorem res_lenE {it : Ty} {sides : List Ty} {l : Nd} (h : InfOk FOk 23 l) : resI it sides (ndLen l) = match resI it sides l with
    | .error (no, qs) => .error (no, 0 :: qs)
    | .ok u => optR 50 [] (comeF [u] [[tL, tN]]) := by
  have e : resI it sides (ndLen l) = comeR [] (formsT (ndLen l)) (kidsR (fun i => inferT formsT it sides 23 [] ([] ++ [(i : Int)]) (kidN (ndLen l) i)) 1 0) := by
    unfold resI
    rw [show (24 : Nat) = 23 + 1 from rfl]
    unfold inferT
    rw [if_neg (by show ¬ ([108, 101, 110] : List UInt8) = _; decide), if_neg (by show ¬ ([108, 101, 110] : List UInt8) = _; decide), if_neg (by show ¬ ([108, 101, 110] : List UInt8) = _; decide), if_neg (by show ¬ ([108, 101, 110] : List UInt8) = _; decide), if_neg (by show ¬ (([108, 101, 110] : List UInt8) = _ ∨ ([108, 101, 110] : List UInt8) = _); decide), if_neg (by show ¬ ([108, 101, 110] : List UInt8) = _; decide)]
    rfl
  rw [e, forms_len]
  unfold kidsR kidsR
  rw [show inferT formsT it sides 23 [] ([] ++ [((0 : Nat) : Int)]) (kidN (ndLen l) 0) = mapP [0] (resI it sides l) from infer_kid 0 h]
  cases resI it sides l with
  | error x => obtain ⟨no, qs⟩ := x; rfl
  | ok t => rfl
theorem measureL_ge (f : Ty → Option Nat) : ∀ (l : List Ty) (m q : Nat), Knd.measureL f l m = some q → m ≤ q
  | [], m, q, h => by injection h with h; omega
  | a :: l, m, q, h => by
    unfold Knd.measureL at h
    cases hf : f a with
    | none => simp [hf] at h
    | some d =>
      rw [hf] at h
      have := measureL_ge f l _ _ h
      omega
theorem measureL_less (f g : Ty → Option Nat) (k : Nat) (h : ∀ a d, f a = some d → d ≤ k → g a = some d) : ∀ (l : List Ty) (m q : Nat), Knd.measureL f l m = some q → q ≤ k → Knd.measureL g l m = some q
  | [], m, q, e, _ => e
  | a :: l, m, q, e, hq => by
    unfold Knd.measureL at e ⊢
    cases hf : f a with
    | none => simp [hf] at e
    | some d =>
      rw [hf] at e
      have := measureL_ge f l _ _ e
      rw [h a d hf (by omega)]
      exact measureL_less f g k h l _ _ e hq
theorem measure_less : ∀ (r : Nat) (t : Ty) (d : Nat), Knd.measureT (r + 1) t = some d → d ≤ r → Knd.measureT r t = some d
  | 0, t, d, h, hd => by
    unfold Knd.measureT at h
    cases hw : Knd.wordK t.kind with
    | none => simp [hw] at h
    | some x =>
      rw [hw] at h
      simp only at h
      split at h
      · cases hm : Knd.measureL (Knd.measureT 0) t.args 0 with
        | none => simp [hm] at h
        | some q => rw [hm] at h; simp at h; omega
      · cases h
  | r + 1, t, d, h, hd => by
    unfold Knd.measureT at h ⊢
    cases hw : Knd.wordK t.kind with
    | none => simp [hw] at h
    | some x =>
      rw [hw] at h
      simp only at h ⊢
      split at h
      · rename_i hl
        rw [if_pos hl]
        cases hm : Knd.measureL (Knd.measureT (r + 1)) t.args 0 with
        | none => simp [hm] at h
        | some q =>
          rw [hm] at h
          simp at h
          rw [measureL_less _ (Knd.measureT r) r (fun a d => measure_less r a d) _ _ _ hm (by omega)]
          simp [h]
      · cases h
theorem list_right {t : Ty} {d : Nat} (h : Knd.measureT 6 t = some d) : (Knd.measureT 6 (.mk 7 [t])).isSome = !(d == 6) := by
  have e : Knd.measureT 6 (.mk 7 [t]) = (Knd.measureL (Knd.measureT 5) [t] 0).map (· + 1) := rfl
  rw [e]
  have hle := Knd.measureT_le 6 t d h
  unfold Knd.measureL
  by_cases hd : d = 6
  · subst hd
    cases h5 : Knd.measureT 5 t with
    | none => rfl
    | some q =>
      have h6 := measureT_more 5 t q h5
      have := Knd.measureT_le 5 t q h5
      rw [h] at h6
      injection h6 with h6
      omega
  · rw [measure_less 5 t d h (by omega)]
    unfold Knd.measureL
    simp [hd]
end Go.Proofs.YtaecndmncpfpfaaGreatDoor.L5
set_option linter.unusedVariables false
set_option linter.unusedSimpArgs false
namespace Go.Proofs.YtaecndmncpfpfaaGreatDoor.L5
open Go.RowKit
structure LsI (w1 : World) (G : Nat) (n : Nd) (j : Nat) (A : Option Addr) (c : Nat) (cs : List Value) (wr : World) : Prop where
  below : Below G w1 wr
  base : w1.heap.size = G
  box : wr.heap[G]? = some (.cells #[.string ⟨#[108, 105, 115, 116]⟩, .int .i64 0, .string ⟨#[]⟩, .int .i64 0, .slice none 0 0, .slice A j c] 41 (0, 0))
  own : wr.ownsRow (G + 1) 41 6 (.slice A j c) j cs
  kids : ∀ (i : Nat), i < j → ∃ u0 u1 u2 u3 u4 u5 d, cs[i * 6]? = some u0 ∧ cs[i * 6 + 1]? = some u1 ∧ cs[i * 6 + 2]? = some u2 ∧ cs[i * 6 + 3]? = some u3 ∧ cs[i * 6 + 4]? = some u4 ∧ cs[i * 6 + 5]? = some u5 ∧ NdAt wr (fun b => G < b ∧ some b ≠ (Value.slice A j c).ownBlock) d (.agg #[u0, u1, u2, u3, u4, u5]) n
theorem LsI.next {w1 wr w3 w7 : World} {G g cap : Nat} {n : Nd} {d j c : Nat} {A : Option Addr} {u0 u1 u2 u3 u4 u5 : Value} {cs : List Value} {o2 : Obj} (h : LsI w1 G n j A c cs wr)
    (hb : Below wr.heap.size wr w3) (hT : NdAt w3 (fun b => wr.heap.size ≤ b) d (.agg #[u0, u1, u2, u3, u4, u5]) n)
    (hg : (w3.alloc o2).grownBy w7 (Value.slice A j c).ownBlock) (hown7 : w7.ownsRow (G + 1) 41 6 (.slice (some ⟨g, 0, none⟩) (j + 1) cap) (j + 1) (cs ++ [u0, u1, u2, u3, u4, u5])) (hat : (Value.slice A j c).ownBlock = some g ∨ g = (w3.alloc o2).heap.size) :
    LsI w1 G n (j + 1) (some ⟨g, 0, none⟩) cap (cs ++ [u0, u1, u2, u3, u4, u5]) (w7.setCell ⟨G, 5, none⟩ (.slice (some ⟨g, 0, none⟩) (j + 1) cap)) := by
  have hGr := cell_lt h.box
  have hs3 := hb.size
  have e3 : (w3.alloc o2).heap.size = w3.heap.size + 1 := by simp
  have hs7 := hg.size
  have hgG : G + 1 ≤ g := (hown7.lt g rfl).1
  have hvs : ∀ b, (Value.slice A j c).ownBlock = some b → G + 1 ≤ b ∧ b < wr.heap.size := h.own.lt
  have setG : ∀ b, b ≠ G → (w7.setCell ⟨G, 5, none⟩ (.slice (some ⟨g, 0, none⟩) (j + 1) cap)).heap[b]? = w7.heap[b]? := fun b hb => Below.heap_setCell _ _ _ _ (by show b ≠ G; exact hb)
  have step3 : ∀ b, b < w3.heap.size → some b ≠ (Value.slice A j c).ownBlock → w7.heap[b]? = w3.heap[b]? := fun b hl hne => by
    rw [hg.block b (by omega) hne, Below.heap_alloc _ _ _ hl]
  have stepr : ∀ b, b < wr.heap.size → some b ≠ (Value.slice A j c).ownBlock → w7.heap[b]? = wr.heap[b]? := fun b hl hne => by
    rw [step3 b (by omega) hne, hb.block b hl]
  have ne1 : ∀ b, b ≤ G → some b ≠ (Value.slice A j c).ownBlock := fun b hl e => by have := (hvs b e.symm).1; omega
  have nev : ∀ k, wr.heap.size ≤ k → some k ≠ (Value.slice A j c).ownBlock := fun k hk e => by have := (hvs k e.symm).2; omega
  have hkp := hown7.kept (row := some G) (Only.set_ G 5 _ (.slice (some ⟨g, 0, none⟩) (j + 1) cap)) (.inr (fun e => by have e2 : g = G := (by simpa [Value.ownBlock] using e); omega))
  refine ⟨?_, h.base, ?_, hkp, fun i hi => ?_⟩
  · have hbr : Below G w1 w3 := h.below.trans (hb.mono (by omega))
    have hb7 : Below G w1 w7 := (hbr.alloc (by omega) o2).grown hg (by omega) (fun k hk => by have := (hvs k hk).1; omega)
    exact hb7.setCell (p := ⟨G, 5, none⟩) (Nat.le_refl _) _
  · have h7 := (stepr G hGr (ne1 G (Nat.le_refl _))).trans h.box
    simp [World.setCell, Array.getElem?_modify, h7]
  · have hcl : cs.length = j * 6 := h.own.1
    have gone : ∀ k, some k ≠ (Value.slice A j c).ownBlock → k < w3.heap.size → k ≠ g := fun k hk hl e' => by
      rcases hat with hh | hh
      · exact hk (by rw [hh, e'])
      · omega
    rcases Nat.lt_or_ge i j with hlt | hge
    · obtain ⟨z0, z1, z2, z3, z4, z5, dz, h0, h1, h2, h3, h4, h5, h6⟩ := h.kids i hlt
      refine ⟨z0, z1, z2, z3, z4, z5, dz, by rw [List.getElem?_append_left (by omega)]; exact h0, by rw [List.getElem?_append_left (by omega)]; exact h1, by rw [List.getElem?_append_left (by omega)]; exact h2, by rw [List.getElem?_append_left (by omega)]; exact h3, by rw [List.getElem?_append_left (by omega)]; exact h4, by rw [List.getElem?_append_left (by omega)]; exact h5, NdAt.move (fun k hk hl => ⟨⟨hk.1, fun e => gone k hk.2 (by omega) (by injection e)⟩, fun _ => World.cell?_of_block ((setG k (by omega)).trans (stepr k hl hk.2))⟩) dz _ _ h6⟩
    · obtain rfl : i = j := by omega
      refine ⟨u0, u1, u2, u3, u4, u5, d, ?_, ?_, ?_, ?_, ?_, ?_, NdAt.move (fun k hk hl => ⟨⟨by omega, fun e => gone k (nev k hk) hl (by injection e)⟩, fun _ => World.cell?_of_block ((setG k (by omega)).trans (step3 k hl (nev k hk)))⟩) d _ _ hT⟩
      all_goals (rw [List.getElem?_append_right (by omega)])
      · simp [show i * 6 - cs.length = 0 by omega]
      · simp [show i * 6 + 1 - cs.length = 1 by omega]
      · simp [show i * 6 + 2 - cs.length = 2 by omega]
      · simp [show i * 6 + 3 - cs.length = 3 by omega]
      · simp [show i * 6 + 4 - cs.length = 4 by omega]
      · simp [show i * 6 + 5 - cs.length = 5 by omega]
theorem LsI.made {w1 wr : World} {G : Nat} {n : Nd} {m : Nat} {A : Option Addr} {c : Nat} {cs : List Value} (h : LsI w1 G n (m + 1) A c cs wr) :
    NdL wr (.agg #[.string ⟨#[108, 105, 115, 116]⟩, .int .i64 0, .string ⟨#[]⟩, .int .i64 0, .slice none 0 0, .slice A (m + 1) c]) (ndL n (m + 1)) := by
  rcases h.own.2 with ⟨e, h0⟩ | ⟨g, cap, cur, e, hbg, hg, hnc, _⟩
  · omega
  · injection e with e1 e2 e3
    subst e1 e3
    have hown := h.own
    have := kids_made (W := wr) (g := g) (k := c) (ks := List.replicate (m + 1) n) (op := [108, 105, 115, 116]) (cell_lt hg) (by simpa using hnc) (fun j a ha => by
      have hj : j < m + 1 := by
        have := (List.getElem?_eq_some_iff.1 ha).1
        simpa using this
      rw [List.getElem?_replicate, if_pos hj] at ha
      injection ha with ha
      subst ha
      obtain ⟨u0, u1, u2, u3, u4, u5, d, h0, h1, h2, h3, h4, h5, h6⟩ := h.kids j hj
      refine ⟨d, u0, u1, u2, u3, u4, u5, ?_, ?_, ?_, ?_, ?_, ?_, NdAt.move (fun b _ hl => ⟨hl, fun _ => rfl⟩) d _ _ h6⟩
      all_goals (rw [Nat.zero_add, hown.cellAt _ (by omega)]; assumption))
    rw [List.length_replicate] at this
    exact this
theorem res_right {it : Ty} {sides : List Ty} {n : Nd} {t : Ty} (h : rightE it sides = true) (hr : resI it sides n = .ok t) : RT t :=
  inferT_right formsT it sides (rightE_spec h).1 (rightE_spec h).2 24 [] [] n t (by simp) hr
end Go.Proofs.YtaecndmncpfpfaaGreatDoor.L5
set_option linter.unusedVariables false
set_option linter.unusedSimpArgs false
namespace Go.Proofs.YtaecndmncpfpfaaGreatDoor.L5
open Go.RowKit
theorem emits_law {w : World} {nv ev : Value} {n : Nd} {it : Ty} {sides : List Ty} (hN : NdL w nv n) (hE : EvL w ev it sides) (hR : RgN 24 n) (hG : Gl w) :
    Calls Tryz.prog 14 #[nv, ev] w fun e w' => InfL (emiR (infR (showW n).isSome it sides (resI it sides n))) w.heap.size w' e ∧ Below w.heap.size w w' := by
  obtain ⟨d, hN⟩ := hN
  obtain ⟨A, k, SA, sk, D, rfl, h1, h2⟩ := hE
  have hres : ∀ t, infR (showW n).isSome it sides (resI it sides n) = .ok t → RT t := fun t h => by
    unfold infR at h
    split at h
    · split at h
      · rename_i hr
        exact res_right hr h
      · cases h
    · cases h
  refine (Emits_any n _ d nv it sides A SA k sk _ w hN hres (fun w1 hb => infer_law0 (fun b => b < w.heap.size) (fun b => b < w.heap.size) d D nv n it sides A SA k sk w1 (hN.below hb) hR (fun b h => by have := hb.size; omega) (fun b h => by have := hb.size; omega) (h1.below hb) (args_mv h2 fun b hb1 => ⟨hb1, hb.block b hb1⟩) (hG.below hb hG.lt2))).mono ?_
  rintro e w' ⟨h, hb⟩
  refine ⟨?_, hb⟩
  cases hr : emiR (infR (showW n).isSome it sides (resI it sides n)) with
  | error x =>
    obtain ⟨no, qs⟩ := x
    rw [hr] at h
    obtain ⟨h0, av, he, ho⟩ := h
    exact ⟨_, av, no, he, rfl, h0, rfl, IsL.own ho⟩
  | ok t =>
    rw [hr] at h
    obtain ⟨v, D', he, ht⟩ := h
    exact ⟨v, _, 0, he, rfl, rfl, D', ht.move fun b hb hl => ⟨⟨hb, hl⟩, fun _ => rfl⟩⟩
theorem list_ends {it : Ty} {sides : List Ty} {n : Nd} {t : Ty} {d m : Nat} (hri : rightE it sides = true) (hl : InfOk FOk 23 (ndL n (m + 1))) (hn : InfOk FOk 23 n) (hr : resI it sides n = .ok t) (ht : RT t) (hd : Knd.measureT 6 t = some d) :
    emiR (infR true it sides (resI it sides (ndL n (m + 1)))) = (if d = 6 then .error (50, []) else .ok t) ∧ infR true it sides (resI it sides (ndLen (ndL n (m + 1)))) = if d = 6 then .error (50, [0]) else .ok (mkT 2) := by
  have h1 := res_list (it := it) (sides := sides) m hn hr ht
  have h2 := res_lenE (it := it) (sides := sides) hl
  rw [list_right hd] at h1
  unfold infR
  rw [if_pos rfl, if_pos hri, if_pos rfl, if_pos hri, h2, h1]
  by_cases h6 : d = 6
  · subst h6
    exact ⟨rfl, rfl⟩
  · rw [if_neg h6, if_neg h6, if_pos (by simp [h6])]
    refine ⟨rfl, ?_⟩
    show optR 50 [] (comeF [.mk 7 [t]] [[tL, tN]]) = _
    rw [come_len ht]
    rfl
end Go.Proofs.YtaecndmncpfpfaaGreatDoor.L5
