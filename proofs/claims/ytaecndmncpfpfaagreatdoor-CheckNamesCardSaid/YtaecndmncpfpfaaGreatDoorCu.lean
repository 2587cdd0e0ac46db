import Derived.Test.YtaecndmncpfpfaaGreatDoorCq
set_option linter.unusedVariables false
set_option linter.unusedSimpArgs false
namespace Go.Proofs.YtaecndmncpfpfaaGreatDoor
open Go.RowKit
def RT (t : Ty) : Prop := (Knd.zH 6 t).isSome = true
theorem measureL_more (f g : Ty → Option Nat) (h : ∀ a d, f a = some d → g a = some d) : ∀ (l : List Ty) (m d : Nat), Knd.yK f l m = some d → Knd.yK g l m = some d
 | [], m, d, e => e
 | a :: l, m, d, e => by
   unfold Knd.yK at e ⊢
   cases hf : f a with
   | none => simp [hf] at e
   | some q =>
     rw [hf] at e
     rw [h a q hf]
     exact measureL_more f g h l _ _ e
theorem measureT_more : ∀ (r : Nat) (t : Ty) (d : Nat), Knd.zH r t = some d → Knd.zH (r + 1) t = some d
 | 0, t, d, h => by simp [Knd.zH] at h
 | r + 1, t, d, h => by
   unfold Knd.zH at h ⊢
   cases hw : Knd.wordK t.kind with
   | none => simp [hw] at h
   | some x =>
     rw [hw] at h
     simp only at h ⊢
     split at h
     · rename_i hl
       rw [if_pos hl]
       cases hm : Knd.yK (Knd.zH r) t.args 0 with
       | none => simp [hm] at h
       | some q =>
         rw [hm] at h
         rw [measureL_more _ _ (fun a d => measureT_more r a d) _ _ _ hm]
         exact h
     · cases h
theorem RT.arg {t : Ty} (h : RT t) (h7 : t.kind = 7) : ∃ a, t.args = [a] ∧ RT a := by
 obtain ⟨q, hq⟩ := Option.isSome_iff_exists.1 h
 obtain ⟨x, hx, hl, _, ha⟩ := Knd.measure_right hq
 rw [h7] at hx
 obtain rfl : Knd.w7 = x := Option.some.inj ((show Knd.wordK 7 = some Knd.w7 from rfl).symm.trans hx)
 have hl1 : t.args.length = 1 := by have : (t.args.length : Int) = 1 := hl; omega
 match hl2 : t.args, hl1 with
 | [a], _ =>
   obtain ⟨q2, hq2⟩ := ha a (by rw [hl2]; simp)
   exact ⟨a, rfl, by unfold RT; rw [measureT_more 5 a q2 hq2]; rfl⟩
def nd0 : Nd := .mk [] 0 [] ty0 []
def kidN (n : Nd) (i : Nat) : Nd := (n.kids[i]?).getD nd0
def optR (no : Int) (ps : List Int) : Option Ty → Except (Int × List Int) Ty
 | some t => .ok t
 | none => .error (no, ps)
def comeR (ps : List Int) (fs : List (List Ty)) : Except (Int × List Int) (List Ty) → Except (Int × List Int) Ty
 | .error x => .error x
 | .ok ts => optR 50 ps (comeF ts fs)
theorem optR_ok {no : Int} {ps : List Int} {o : Option Ty} {t : Ty} (h : optR no ps o = .ok t) : o = some t := by
 cases o with
 | none => cases h
 | some u => injection h with h; rw [h]
def zM (FT : Nd → List (List Ty)) (it : Ty) (sides : List Ty) : Nat → List (List UInt8 × Ty) → List Int → Nd → Except (Int × List Int) Ty
 | 0, _, _, _ => .error (1, [])
 | r + 1, names, ps, n =>
   if n.op = [105, 116] then .ok it
   else if n.op = [115, 105, 100, 101] then optR 53 ps sides[n.int.toNat]?
   else if n.op = [110, 97, 109, 101] then optR 51 ps (lastN n.text names)
   else if n.op = [108, 101, 116] then bindR (zM FT it sides r names (ps ++ [1]) (kidN n 1)) fun t => zM FT it sides r (names ++ [((kidN n 0).text, t)]) (ps ++ [(n.kids.length : Int) - 1]) (kidN n (n.kids.length - 1))
   else if n.op = [109, 97, 112] ∨ n.op = [102, 105, 108, 116, 101, 114] then eachR (n.op == [109, 97, 112]) ps (zM FT it sides r names (ps ++ [0]) (kidN n 0)) fun a => zM FT it sides r (names ++ [((kidN n 1).text, a)]) (ps ++ [(n.kids.length : Int) - 1]) (kidN n (n.kids.length - 1))
   else if n.op = [102, 111, 108, 100] then foldR ps (yC (fun i => zM FT it sides r names (ps ++ [(i : Int)]) (kidN n i)) 2 0) fun d a => zM FT it sides r (names ++ [((kidN n 2).text, d), ((kidN n 3).text, a)]) (ps ++ [(n.kids.length : Int) - 1]) (kidN n (n.kids.length - 1))
   else comeR ps (FT n) (yC (fun i => zM FT it sides r names (ps ++ [(i : Int)]) (kidN n i)) n.kids.length 0)
theorem comeF_right : ∀ (fs : List (List Ty)) (ts : List Ty) (t : Ty), comeF ts fs = some t → RT t
 | [], ts, t, h => by cases h
 | f :: fs, ts, t, h => by
   unfold comeF at h
   split at h
   · split at h
     · rename_i hm
       injection h with h
       rw [← h]
       exact hm
     · cases h
   · exact comeF_right fs ts t h
theorem lastN_mem {c : List UInt8} {names : List (List UInt8 × Ty)} {t : Ty} (h : lastN c names = some t) : ∃ x ∈ names, x.2 = t := by
 unfold lastN at h
 rw [Option.map_eq_some_iff] at h
 obtain ⟨x, hx, rfl⟩ := h
 exact ⟨x, List.mem_reverse.1 (List.mem_of_find?_eq_some hx), rfl⟩
theorem bindR_ok {r1 : Except (Int × List Int) Ty} {r2 : Ty → Except (Int × List Int) Ty} {t : Ty} (h : bindR r1 r2 = .ok t) : ∃ u, r1 = .ok u ∧ r2 u = .ok t := by
 cases r1 with
 | error x => cases h
 | ok u => exact ⟨u, rfl, h⟩
theorem eachR_ok {m : Bool} {ps : List Int} {r1 : Except (Int × List Int) Ty} {r2 : Ty → Except (Int × List Int) Ty} {t : Ty} (h : eachR m ps r1 r2 = .ok t) : ∃ u, r1 = .ok u ∧ (RT t ∨ t = u) := by
 cases r1 with
 | error x => cases h
 | ok u =>
   refine ⟨u, rfl, ?_⟩
   unfold eachR at h
   simp only at h
   split at h
   · cases hr : r2 (u.args.headD ty0) with
     | error x => rw [hr] at h; cases h
     | ok v =>
       rw [hr] at h
       unfold eachE at h
       simp only at h
       split at h
       · split at h
         · rename_i hm
           injection h with h
           exact .inl (by rw [← h]; exact hm)
         · cases h
       · split at h
         · injection h with h
           exact .inr h.symm
         · cases h
   · cases h
theorem foldR_ok {ps : List Int} {f : Nat → Except (Int × List Int) Ty} {r2 : Ty → Ty → Except (Int × List Int) Ty} {t : Ty} (h : foldR ps (yC f 2 0) r2 = .ok t) : f 1 = .ok t := by
 cases hk : yC f 2 0 with
 | error x => rw [hk] at h; cases h
 | ok ts =>
   obtain ⟨u, d, rfl, h0, h1⟩ := kids_two hk
   rw [hk] at h
   unfold foldR at h
   simp only at h
   split at h
   · cases hr : r2 ([u, d].getD 1 ty0) (([u, d].headD ty0).args.headD ty0) with
     | error x => rw [hr] at h; cases h
     | ok v =>
       rw [hr] at h
       unfold foldE at h
       simp only at h
       split at h
       · injection h with h
         rw [h1, ← h]
         rfl
       · cases h
   · cases h
theorem inferT_right (FT : Nd → List (List Ty)) (it : Ty) (sides : List Ty) (hit : RT it) (hs : ∀ t ∈ sides, RT t) : ∀ (r : Nat) (names : List (List UInt8 × Ty)) (ps : List Int) (n : Nd) (t : Ty), (∀ x ∈ names, RT x.2) → zM FT it sides r names ps n = .ok t → RT t
 | 0, _, _, _, _, _, h => by cases h
 | r + 1, names, ps, n, t, hn, h => by
   have IH := inferT_right FT it sides hit hs r
   unfold zM at h
   split at h
   · injection h with h; rw [← h]; exact hit
   split at h
   · exact hs _ (List.mem_of_getElem? (optR_ok h))
   split at h
   · obtain ⟨x, hm, hx2⟩ := lastN_mem (optR_ok h)
     rw [← hx2]
     exact hn x hm
   split at h
   · obtain ⟨u, h1, h2⟩ := bindR_ok h
     have hu := IH _ _ _ _ hn h1
     refine IH _ _ _ _ (fun x hx => ?_) h2
     rcases List.mem_append.1 hx with hx | hx
     · exact hn x hx
     · obtain rfl := List.mem_singleton.1 hx
       exact hu
   split at h
   · obtain ⟨u, h1, h2⟩ := eachR_ok h
     rcases h2 with h2 | rfl
     · exact h2
     · exact IH _ _ _ _ hn h1
   split at h
   · exact IH _ _ _ _ hn (foldR_ok h)
   · cases hk : yC (fun i => zM FT it sides r names (ps ++ [(i : Int)]) (kidN n i)) n.kids.length 0 with
     | error x => rw [hk] at h; cases h
     | ok ts =>
       rw [hk] at h
       exact comeF_right _ _ _ (optR_ok h)
end Go.Proofs.YtaecndmncpfpfaaGreatDoor
set_option linter.unusedVariables false
set_option linter.unusedSimpArgs false
namespace Go.Proofs.YtaecndmncpfpfaaGreatDoor
open Go.RowKit
def InfOk (FO : Nd → Prop) : Nat → Nd → Prop
 | 0, _ => False
 | r + 1, n => n.kids.length ≤ 64 ∧ (n.op = [115, 105, 100, 101] → 0 ≤ n.int) ∧ (n.op = [108, 101, 116] → n.kids.length = 3) ∧ ((n.op = [109, 97, 112] ∨ n.op = [102, 105, 108, 116, 101, 114]) → n.kids.length = 3) ∧ (n.op = [102, 111, 108, 100] → n.kids.length = 5) ∧
   ((n.op ≠ [105, 116] ∧ n.op ≠ [115, 105, 100, 101] ∧ n.op ≠ [110, 97, 109, 101] ∧ n.op ≠ [108, 101, 116] ∧ n.op ≠ [109, 97, 112] ∧ n.op ≠ [102, 105, 108, 116, 101, 114] ∧ n.op ≠ [102, 111, 108, 100]) → FO n) ∧ ∀ (i : Nat) (k : Nd), n.kids[i]? = some k → InfOk FO r k
def FormsC (FT : Nd → List (List Ty)) (FO : Nd → Prop) : Prop := (∀ n, FO n → (∀ f ∈ FT n, FormOk f) ∧ (FT n).length ≤ 10) ∧
 ∀ (S : Nat → Prop) (dn : Nat) (nv : Value) (n : Nd) (w : World), FO n → NdAt w S (dn + 1) nv n → (∀ k, S k → k < w.heap.size) →
  Calls Tryz.prog 63 #[nv] w fun e w' => (∃ FA fk D, e = .returned (.slice FA (FT n).length fk) ∧ FormsAt w' (fun k => S k ∨ (w.heap.size ≤ k ∧ k < w'.heap.size)) D FA (FT n)) ∧ Below w.heap.size w w'
def InferOk (FT : Nd → List (List Ty)) (FO : Nd → Prop) (it : Ty) (sides : List Ty) (r : Nat) : Prop :=
 ∀ (W : Nat) (P S : Nat → Prop) (names : List (List UInt8 × Ty)) (NA : Option Addr) (nk : Nat) (AV : Value) (ps : List Int) (nv : Value) (n : Nd) (dn : Nat) (w : World),
  (∀ x ∈ names, RT x.2) → WkI w W P it sides names NA nk AV ps → (∀ k, S k → P k) → names.length + 2 * r ≤ 500 → (names.length = 0 → NA = none ∧ nk = 0) → ps.length + r ≤ 100 → InfOk FO r n → NdAt w S dn nv n →
  Calls Tryz.prog 33 #[.pointer (some ⟨W, 0, none⟩), nv] w fun e w' => InOut w w' W P it sides names NA nk AV ps e (zM FT it sides r names ps n)
theorem kid_of {FT : Nd → List (List Ty)} {FO : Nd → Prop} {it : Ty} {sides : List Ty} {r : Nat} (IH : InferOk FT FO it sides r) (W : Nat) (P S : Nat → Prop) (names : List (List UInt8 × Ty)) (NA : Option Addr) (nk : Nat) (AV : Value) (ps : List Int) (nv : Value) (n : Nd) (dn : Nat) (i : Nat) (w : World)
    (hn : ∀ x ∈ names, RT x.2) (hW : WkI w W P it sides names NA nk AV ps) (hSP : ∀ k, S k → P k) (hnl : names.length + 2 * r ≤ 500) (hnil : names.length = 0 → NA = none ∧ nk = 0) (hps : ps.length + (r + 1) ≤ 100) (hk : ∀ (i : Nat) (k : Nd), n.kids[i]? = some k → InfOk FO r k) (hi : i < n.kids.length) (hN : NdAt w S (dn + 1) nv n) :
    Calls Tryz.prog 93 #[.pointer (some ⟨W, 0, none⟩), nv, .int .i64 i] w fun e w' => InOut w w' W P it sides names NA nk AV ps e (zM FT it sides r names (ps ++ [(i : Int)]) (kidN n i)) := by
 obtain ⟨AA, ac, rfl⟩ : ∃ AA ac, AV = .slice AA ps.length ac := by
  rcases hW.own.2 with ⟨e, h0⟩ | ⟨g, cp, cur, e, _⟩
  · exact ⟨none, 0, by rw [e, h0]⟩
  · exact ⟨_, _, e⟩
 have hg : n.kids[i]? = some n.kids[i] := List.getElem?_eq_getElem hi
 have he : kidN n i = n.kids[i] := by unfold kidN; rw [hg]; rfl
 rw [he]
 refine kid_any W P S it sides names NA nk AA ac ps nv n dn i n.kids[i] _ w hW (by omega) hN hg (fun k hk => hW.sep k (hSP k hk)) ?_
 intro kv AA' ac' w1 hw1 hn1 hs1
 exact IH W P S names NA nk _ (ps ++ [(i : Int)]) kv n.kids[i] dn w1 hn hw1 hSP hnl hnil (by rw [List.length_append]; simp; omega) (hk i _ hg) hn1
theorem forms_more {w : World} {P P' : Nat → Prop} {d e : Nat} {A : Option Addr} {fs : List (List Ty)} (h : FormsAt w P d A fs) (hd : d ≤ e) (hP : ∀ k, P k → P' k) : FormsAt w P' e A fs := fun hl => by
 obtain ⟨b, o, h1, h2, h3⟩ := h hl
 refine ⟨b, o, h1, hP b h2, fun j f hf => ?_⟩
 obtain ⟨FA, c, g1, g2, g3⟩ := h3 j f hf
 exact ⟨FA, c, g1, g2, args_more hd (args_mv g3 fun k hk => ⟨hP k hk, rfl⟩)⟩
theorem tyout_in {w1 w5 : World} {W : Nat} {P : Nat → Prop} {it : Ty} {sides : List Ty} {names : List (List UInt8 × Ty)} {NA : Option Addr} {nk d : Nat} {AV : Value} {ps : List Int} {no : Int} (hno : no ≠ 0) (hW : WkI w1 W P it sides names NA nk AV ps) (hb : Below w1.heap.size w1 w5) {e : Ending} {o : Option Ty} (h : TyOut no w5 P d e o) :
    InOut w1 w5 W P it sides names NA nk AV ps e (optR no ps o) := by
 cases o with
 | none =>
   obtain rfl : e = .returned (.tuple #[.agg #[.int .i64 0, .slice none 0 0], .int .i64 no]) := h
   exact ⟨hno, AV, rfl, hW.low_ hb, WkS.of_below hb⟩
 | some t =>
   obtain ⟨v, rfl, hT⟩ := h
   exact ⟨AV, v, d, rfl, hT.move fun b hb _ => ⟨.inl hb, fun _ => rfl⟩, hW.low_ hb, WkS.of_below hb⟩
theorem kidN_get {n : Nd} {i : Nat} (h : i < n.kids.length) : n.kids[i]? = some (kidN n i) := by
 unfold kidN
 rw [List.getElem?_eq_getElem h]
 rfl
set_option maxRecDepth 100000 in
set_option maxHeartbeats 8000000 in
theorem infer_step (FT : Nd → List (List Ty)) (FO : Nd → Prop) (it : Ty) (sides : List Ty) (hit : RT it) (hsd : ∀ t ∈ sides, RT t) (HF : FormsC FT FO) (r : Nat) (IH : InferOk FT FO it sides r) : InferOk FT FO it sides (r + 1) := by
 intro W P S names NA nk AV ps nv n dn w hnm hW hSP hnl hnil hps hOk hN
 cases dn with
 | zero => exact hN.elim
 | succ dn =>
 obtain ⟨hk64, oSide, oLet, oMap, oFold, oForm, oKids⟩ := hOk
 have hRT : ∀ (names : List (List UInt8 × Ty)) (ps : List Int) (m : Nd) (t : Ty), (∀ x ∈ names, RT x.2) → zM FT it sides r names ps m = .ok t → RT t := fun names ps m t => inferT_right FT it sides hit hsd r names ps m t
 have HN := Lib.hid hN
 obtain ⟨A, c, K, k, rfl⟩ := hN.form
 have hWl := hW.lt
 have HW := Lib.hid hW
 have HSP := Lib.hid hSP
 have HIH := Lib.hid IH
 have HRT := Lib.hid hRT
 have HNM := Lib.hid hnm
 have HKI := Lib.hid oKids
 have HFO := Lib.hid oForm
 have HHF := Lib.hid HF
 obtain ⟨w1, hw1⟩ : ∃ w1, (w.alloc (.cells #[.string ⟨n.op.toArray⟩, .int .i64 n.int, .string ⟨n.text.toArray⟩, .int .i64 n.ty.kind, .slice A n.ty.args.length c, .slice K n.kids.length k] 41)).alloc (.cells #[.int .i64 0, .slice none 0 0] 34) = w1 := ⟨_, rfl⟩
 have HW1 : Hid (WkI w1 W P it sides names NA nk AV ps) := Lib.hid (by rw [← hw1]; exact (hW.alloc _).alloc _)
 have hb1 : Below w.heap.size w w1 := by
  rw [← hw1]
  exact ((Below.refl w.heap.size w).alloc (Nat.le_refl _) _).alloc (by simp) _
 have h10 : w1.heap[w.heap.size]? = some (.cells #[.string ⟨n.op.toArray⟩, .int .i64 n.int, .string ⟨n.text.toArray⟩, .int .i64 n.ty.kind, .slice A n.ty.args.length c, .slice K n.kids.length k] 41 (0, 0)) := by
  rw [← hw1]
  exact (Below.heap_alloc _ _ _ (by simp)).trans (heap_alloc_new w _)
 have h11 : w1.heap[w.heap.size + 1]? = some (.cells #[.int .i64 0, .slice none 0 0] 34 (0, 0)) := by
  rw [← hw1]
  simpa using heap_alloc_new (w.alloc (.cells #[.string ⟨n.op.toArray⟩, .int .i64 n.int, .string ⟨n.text.toArray⟩, .int .i64 n.ty.kind, .slice A n.ty.args.length c, .slice K n.kids.length k] 41)) (.cells #[.int .i64 0, .slice none 0 0] 34)
 have hs1 : w1.heap.size = w.heap.size + 2 := by rw [← hw1]; simp
 have HOWL : Hid (∀ g, AV.ownBlock = some g → g < w.heap.size) := Lib.hid fun g hg => (hW.own.lt g hg).2
 have HB1 := Lib.hid hb1
 have H10 := Lib.hid h10
 have H11 := Lib.hid h11
 have HN1 := Lib.hid (hN.below hb1)
 have n0 : w1.cell? ⟨w.heap.size, 0, none⟩ = some (.string ⟨n.op.toArray⟩) := zD (i := 0) h10 rfl
 have n1 : w1.cell? ⟨w.heap.size, 1, none⟩ = some (.int .i64 n.int) := zD (i := 1) h10 rfl
 have n2 : w1.cell? ⟨w.heap.size, 2, none⟩ = some (.string ⟨n.text.toArray⟩) := zD (i := 2) h10 rfl
 have n3 : w1.cell? ⟨w.heap.size, 3, none⟩ = some (.int .i64 n.ty.kind) := zD (i := 3) h10 rfl
 have n4 : w1.cell? ⟨w.heap.size, 4, none⟩ = some (.slice A n.ty.args.length c) := zD (i := 4) h10 rfl
 have n5 : w1.cell? ⟨w.heap.size, 5, none⟩ = some (.slice K n.kids.length k) := zD (i := 5) h10 rfl
 have x0 : w1.cell? ⟨w.heap.size + 1, 0, none⟩ = some (.int .i64 0) := zD (i := 0) h11 rfl
 have x1 : w1.cell? ⟨w.heap.size + 1, 1, none⟩ = some (.slice none 0 0) := zD (i := 1) h11 rfl
 have xf0 := zI (i := 0) h11
 have xf1 := zI (i := 1) h11
 have HFAR : Hid (∀ (w5 wF : World) (x y : Value), wF = (w5.setCell ⟨w.heap.size + 1, 0, none⟩ x).setCell ⟨w.heap.size + 1, 1, none⟩ y → ∀ b, b < w5.heap.size → b ≠ w.heap.size + 1 → wF.heap[b]? = w5.heap[b]?) := Lib.hid fun w5 wF x y e b hb hn1 => by
  rw [e, Below.heap_setCell _ _ _ _ (by show b ≠ w.heap.size + 1; exact hn1), Below.heap_setCell _ _ _ _ (by show b ≠ w.heap.size + 1; exact hn1)]
 have HOW5 : Hid (∀ (w5 : World) (AV5 : Value), WkS w1 w5 W AV AV5 → ∀ g, AV5.ownBlock = some g → g ≠ w.heap.size + 1) := Lib.hid fun w5 AV5 h g hg => by
  rcases h.own with e | e
  · rw [e] at hg
    have := HOWL.out g hg
    omega
  · have := e g hg
    omega
 clear hW hSP IH hRT hnm oKids oForm HF hb1 h10 h11 hN
 by_cases o1 : n.op = [105, 116]
 · have e1 : (n.op == [105, 116]) = true := by simp [o1]
   have HI : Hid (zM FT it sides (r + 1) names ps n = .ok it) := Lib.hid (by unfold zM; rw [if_pos o1])
   clear o1 oSide oLet oMap oFold
   obtain ⟨d, hWA⟩ := HW1.out.walk
   obtain ⟨A1, k1, SA, sk, hb, hT, hSd⟩ := hWA.box
   have v0 : w1.cell? ⟨W, 0, none⟩ = some (.int .i64 it.kind) := zD (i := 0) hb rfl
   have v1 : w1.cell? ⟨W, 1, none⟩ = some (.slice A1 it.args.length k1) := zD (i := 1) hb rfl
   have HT := Lib.hid hT
   have y0 := x0
   have y1 := x1
   clear hWA hb hT hSd
   go_enter Tryz.func33, Tryz.ntmps33
   go_wp2_with (fail)
   refine bodyPost_ret (v := .tuple #[.agg #[.int .i64 it.kind, .slice A1 it.args.length k1], .int .i64 0]) (by simp [results, Tryz.results33, go_sem, y0, y1]) rfl ?_
   rw [HI.out]
   exact ret_ok HW.out HW1.out (WkS.of_below HB1.out) (fun g hg => by have := HOWL.out g hg; omega) (HFAR.out _ _ _ _ rfl) (by simp [World.setCell]) ⟨rfl, rfl, rfl⟩ (HT.out.move fun b hb _ => ⟨.inl hb, fun _ => rfl⟩)
 have f1 : (n.op == [105, 116]) = false := by simp [o1]
 by_cases o2 : n.op = [115, 105, 100, 101]
 · have e2 : (n.op == [115, 105, 100, 101]) = true := by simp [o2]
   have hi0 := oSide o2
   have HE : zM FT it sides (r + 1) names ps n = optR 53 ps sides[n.int.toNat]? := by rw [zM, if_neg o1, if_pos o2]
   have HCC : Hid (Calls Tryz.prog 56 #[.pointer (some ⟨W, 0, none⟩), .int .i64 n.int] w1 fun e w' => InOut w1 w' W P it sides names NA nk AV ps e (zM FT it sides (r + 1) names ps n)) := Lib.hid (by
    obtain ⟨d, hWA⟩ := HW1.out.walk
    have h := side_any W P d it sides names NA nk AV n.int.toNat w1 hWA
    rw [Int.toNat_of_nonneg hi0] at h
    rw [HE]
    exact h.mono fun e w' ⟨h1, h2⟩ => tyout_in (by decide) HW1.out h2 h1)
   clear o2 o1 HE oSide oLet oMap oFold hi0
   go_enter Tryz.func33, Tryz.ntmps33
   go_wp2_with (fail)
   refine HCC.out.mono ?_
   rintro e w5 ho
   obtain ⟨res, hres⟩ : ∃ res, res = zM FT it sides (r + 1) names ps n := ⟨_, rfl⟩
   rw [← hres] at ho
   have HI := Lib.hid hres.symm
   clear hres HCC
   cases res with
   | error x =>
     obtain ⟨no, qs⟩ := x
     obtain ⟨hno, AV5, rfl, hWI, hWS⟩ := ho
     have hr5 := (hWS.block (w.heap.size + 1) (by omega) (by omega) (fun e => by have := HOWL.out _ e.symm; omega)).trans H11.out
     have y0 := zD (i := 0) hr5 rfl
     have y1 := zD (i := 1) hr5 rfl
     have yf0 := zI (i := 0) hr5
     have yf1 := zI (i := 1) hr5
     have HWI := Lib.hid hWI
     have HWS := Lib.hid hWS
     clear hr5 hWI hWS
     go_wp2_with (fail)
     refine bodyPost_ret (v := .tuple #[.agg #[.int .i64 0, .slice none 0 0], .int .i64 no]) (by simp [results, Tryz.results33, go_sem, y0, y1]) rfl ?_
     rw [HI.out]
     exact kid_err HW.out HWI.out ((WkS.of_below HB1.out).trans HWS.out) hno (HOW5.out _ _ HWS.out) (HFAR.out _ _ _ _ rfl) (by simp [World.setCell]) ⟨rfl, rfl, rfl⟩
   | ok t =>
     obtain ⟨AV5, v, d5, rfl, hT5, hWI, hWS⟩ := ho
     obtain ⟨A5, k5, rfl⟩ := hT5.form
     have hr5 := (hWS.block (w.heap.size + 1) (by omega) (by omega) (fun e => by have := HOWL.out _ e.symm; omega)).trans H11.out
     have y0 := zD (i := 0) hr5 rfl
     have y1 := zD (i := 1) hr5 rfl
     have yf0 := zI (i := 0) hr5
     have yf1 := zI (i := 1) hr5
     have HWI := Lib.hid hWI
     have HWS := Lib.hid hWS
     have HT5 : Hid (TyAt w5 (fun k => P k ∨ (w.heap.size + 2 ≤ k ∧ k < w5.heap.size ∧ some k ≠ AV5.ownBlock)) d5 (.agg #[.int .i64 t.kind, .slice A5 t.args.length k5]) t) := Lib.hid (hT5.move fun b hb _ => ⟨hb.imp id fun ⟨h1, h2, h3⟩ => ⟨by omega, h2, h3⟩, fun _ => rfl⟩)
     clear hr5 hWI hWS hT5
     go_wp2_with (fail)
     refine bodyPost_ret (v := .tuple #[.agg #[.int .i64 t.kind, .slice A5 t.args.length k5], .int .i64 0]) (by simp [results, Tryz.results33, go_sem, y0, y1]) rfl ?_
     rw [HI.out]
     exact ret_ok HW.out HWI.out ((WkS.of_below HB1.out).trans HWS.out) (HOW5.out _ _ HWS.out) (HFAR.out _ _ _ _ rfl) (by simp [World.setCell]) ⟨rfl, rfl, rfl⟩ HT5.out
 have f2 : (n.op == [115, 105, 100, 101]) = false := by simp [o2]
 by_cases o3 : n.op = [110, 97, 109, 101]
 · have e3 : (n.op == [110, 97, 109, 101]) = true := by simp [o3]
   have HE : zM FT it sides (r + 1) names ps n = optR 51 ps (lastN n.text names) := by rw [zM, if_neg o1, if_neg o2, if_pos o3]
   have HCC : Hid (Calls Tryz.prog 57 #[.pointer (some ⟨W, 0, none⟩), .string ⟨n.text.toArray⟩] w1 fun e w' => InOut w1 w' W P it sides names NA nk AV ps e (zM FT it sides (r + 1) names ps n)) := Lib.hid (by
    obtain ⟨d, hWA⟩ := HW1.out.walk
    rw [HE]
    exact (name_any W P d it sides names NA nk AV n.text w1 hWA (by omega) (fun h => (hnil h).1)).mono fun e w' ⟨h1, h2⟩ => tyout_in (by decide) HW1.out h2 h1)
   clear o3 o2 o1 HE oSide oLet oMap oFold
   go_enter Tryz.func33, Tryz.ntmps33
   go_wp2_with (fail)
   refine HCC.out.mono ?_
   rintro e w5 ho
   obtain ⟨res, hres⟩ : ∃ res, res = zM FT it sides (r + 1) names ps n := ⟨_, rfl⟩
   rw [← hres] at ho
   have HI := Lib.hid hres.symm
   clear hres HCC
   cases res with
   | error x =>
     obtain ⟨no, qs⟩ := x
     obtain ⟨hno, AV5, rfl, hWI, hWS⟩ := ho
     have hr5 := (hWS.block (w.heap.size + 1) (by omega) (by omega) (fun e => by have := HOWL.out _ e.symm; omega)).trans H11.out
     have y0 := zD (i := 0) hr5 rfl
     have y1 := zD (i := 1) hr5 rfl
     have yf0 := zI (i := 0) hr5
     have yf1 := zI (i := 1) hr5
     have HWI := Lib.hid hWI
     have HWS := Lib.hid hWS
     clear hr5 hWI hWS
     go_wp2_with (fail)
     refine bodyPost_ret (v := .tuple #[.agg #[.int .i64 0, .slice none 0 0], .int .i64 no]) (by simp [results, Tryz.results33, go_sem, y0, y1]) rfl ?_
     rw [HI.out]
     exact kid_err HW.out HWI.out ((WkS.of_below HB1.out).trans HWS.out) hno (HOW5.out _ _ HWS.out) (HFAR.out _ _ _ _ rfl) (by simp [World.setCell]) ⟨rfl, rfl, rfl⟩
   | ok t =>
     obtain ⟨AV5, v, d5, rfl, hT5, hWI, hWS⟩ := ho
     obtain ⟨A5, k5, rfl⟩ := hT5.form
     have hr5 := (hWS.block (w.heap.size + 1) (by omega) (by omega) (fun e => by have := HOWL.out _ e.symm; omega)).trans H11.out
     have y0 := zD (i := 0) hr5 rfl
     have y1 := zD (i := 1) hr5 rfl
     have yf0 := zI (i := 0) hr5
     have yf1 := zI (i := 1) hr5
     have HWI := Lib.hid hWI
     have HWS := Lib.hid hWS
     have HT5 : Hid (TyAt w5 (fun k => P k ∨ (w.heap.size + 2 ≤ k ∧ k < w5.heap.size ∧ some k ≠ AV5.ownBlock)) d5 (.agg #[.int .i64 t.kind, .slice A5 t.args.length k5]) t) := Lib.hid (hT5.move fun b hb _ => ⟨hb.imp id fun ⟨h1, h2, h3⟩ => ⟨by omega, h2, h3⟩, fun _ => rfl⟩)
     clear hr5 hWI hWS hT5
     go_wp2_with (fail)
     refine bodyPost_ret (v := .tuple #[.agg #[.int .i64 t.kind, .slice A5 t.args.length k5], .int .i64 0]) (by simp [results, Tryz.results33, go_sem, y0, y1]) rfl ?_
     rw [HI.out]
     exact ret_ok HW.out HWI.out ((WkS.of_below HB1.out).trans HWS.out) (HOW5.out _ _ HWS.out) (HFAR.out _ _ _ _ rfl) (by simp [World.setCell]) ⟨rfl, rfl, rfl⟩ HT5.out
 have f3 : (n.op == [110, 97, 109, 101]) = false := by simp [o3]
 by_cases o4 : n.op = [108, 101, 116]
 · have e4 : (n.op == [108, 101, 116]) = true := by simp [o4]
   have h3 := oLet o4
   have HE : zM FT it sides (r + 1) names ps n = bindR (zM FT it sides r names (ps ++ [1]) (kidN n 1)) fun t => zM FT it sides r (names ++ [((kidN n 0).text, t)]) (ps ++ [(n.kids.length : Int) - 1]) (kidN n (n.kids.length - 1)) := by rw [zM, if_neg o1, if_neg o2, if_neg o3, if_pos o4]
   have hcast : ((n.kids.length - 1 : Nat) : Int) = (n.kids.length : Int) - 1 := by omega
   have HCC : Hid (Calls Tryz.prog 58 #[.pointer (some ⟨W, 0, none⟩), (.agg #[.string ⟨n.op.toArray⟩, .int .i64 n.int, .string ⟨n.text.toArray⟩, .int .i64 n.ty.kind, .slice A n.ty.args.length c, .slice K n.kids.length k])] w1 fun e w' => InOut w1 w' W P it sides names NA nk AV ps e (zM FT it sides (r + 1) names ps n)) := Lib.hid (by
    rw [HE]
    refine let_any W P S it sides names NA nk AV ps _ n (kidN n 0) dn _ _ w1 HW1.out (by omega) hnil hk64 (kidN_get (by omega)) HN1.out (fun k hk => HW1.out.sep k (HSP.out k hk)) ?_ ?_
    · intro w2 hw2 hn2 hs2
      have h := kid_of HIH.out W P S names NA nk AV ps _ n dn 1 w2 HNM.out hw2 HSP.out (by omega) hnil hps HKI.out (by omega) hn2
      rw [show ((1 : Nat) : Int) = 1 from rfl] at h
      exact h
    · intro P' t AV' g cap w2 ht hw2 hn2 hs2 hPP
      have h := kid_of HIH.out W P' S (names ++ [((kidN n 0).text, t)]) (some ⟨g, 0, none⟩) cap AV' ps _ n dn (n.kids.length - 1) w2 (fun x hx => by
       rcases List.mem_append.1 hx with hx | hx
       · exact HNM.out x hx
       · obtain rfl := List.mem_singleton.1 hx
         exact HRT.out _ _ _ _ HNM.out ht) hw2 (fun k hk => hPP k (HSP.out k hk)) (by rw [List.length_append]; simp; omega) (fun h => by simp at h) hps HKI.out (by omega) hn2
      rw [hcast] at h
      exact h)
   clear h3 hcast o4 o3 o2 o1 HE oSide oLet oMap oFold
   go_enter Tryz.func33, Tryz.ntmps33
   go_wp2_with (fail)
   refine HCC.out.mono ?_
   rintro e w5 ho
   obtain ⟨res, hres⟩ : ∃ res, res = zM FT it sides (r + 1) names ps n := ⟨_, rfl⟩
   rw [← hres] at ho
   have HI := Lib.hid hres.symm
   clear hres HCC
   cases res with
   | error x =>
     obtain ⟨no, qs⟩ := x
     obtain ⟨hno, AV5, rfl, hWI, hWS⟩ := ho
     have hr5 := (hWS.block (w.heap.size + 1) (by omega) (by omega) (fun e => by have := HOWL.out _ e.symm; omega)).trans H11.out
     have y0 := zD (i := 0) hr5 rfl
     have y1 := zD (i := 1) hr5 rfl
     have yf0 := zI (i := 0) hr5
     have yf1 := zI (i := 1) hr5
     have HWI := Lib.hid hWI
     have HWS := Lib.hid hWS
     clear hr5 hWI hWS
     go_wp2_with (fail)
     refine bodyPost_ret (v := .tuple #[.agg #[.int .i64 0, .slice none 0 0], .int .i64 no]) (by simp [results, Tryz.results33, go_sem, y0, y1]) rfl ?_
     rw [HI.out]
     exact kid_err HW.out HWI.out ((WkS.of_below HB1.out).trans HWS.out) hno (HOW5.out _ _ HWS.out) (HFAR.out _ _ _ _ rfl) (by simp [World.setCell]) ⟨rfl, rfl, rfl⟩
   | ok t =>
     obtain ⟨AV5, v, d5, rfl, hT5, hWI, hWS⟩ := ho
     obtain ⟨A5, k5, rfl⟩ := hT5.form
     have hr5 := (hWS.block (w.heap.size + 1) (by omega) (by omega) (fun e => by have := HOWL.out _ e.symm; omega)).trans H11.out
     have y0 := zD (i := 0) hr5 rfl
     have y1 := zD (i := 1) hr5 rfl
     have yf0 := zI (i := 0) hr5
     have yf1 := zI (i := 1) hr5
     have HWI := Lib.hid hWI
     have HWS := Lib.hid hWS
     have HT5 : Hid (TyAt w5 (fun k => P k ∨ (w.heap.size + 2 ≤ k ∧ k < w5.heap.size ∧ some k ≠ AV5.ownBlock)) d5 (.agg #[.int .i64 t.kind, .slice A5 t.args.length k5]) t) := Lib.hid (hT5.move fun b hb _ => ⟨hb.imp id fun ⟨h1, h2, h3⟩ => ⟨by omega, h2, h3⟩, fun _ => rfl⟩)
     clear hr5 hWI hWS hT5
     go_wp2_with (fail)
     refine bodyPost_ret (v := .tuple #[.agg #[.int .i64 t.kind, .slice A5 t.args.length k5], .int .i64 0]) (by simp [results, Tryz.results33, go_sem, y0, y1]) rfl ?_
     rw [HI.out]
     exact ret_ok HW.out HWI.out ((WkS.of_below HB1.out).trans HWS.out) (HOW5.out _ _ HWS.out) (HFAR.out _ _ _ _ rfl) (by simp [World.setCell]) ⟨rfl, rfl, rfl⟩ HT5.out
 have f4 : (n.op == [108, 101, 116]) = false := by simp [o4]
 by_cases o5 : n.op = [109, 97, 112]
 · have e5 : (n.op == [109, 97, 112]) = true := by simp [o5]
   have h3 := oMap (.inl o5)
   have hm : (n.op == [109, 97, 112]) = true := by simp [o5]
   have HE : zM FT it sides (r + 1) names ps n = eachR true ps (zM FT it sides r names (ps ++ [0]) (kidN n 0)) fun a => zM FT it sides r (names ++ [((kidN n 1).text, a)]) (ps ++ [(n.kids.length : Int) - 1]) (kidN n (n.kids.length - 1)) := by rw [zM, if_neg o1, if_neg o2, if_neg o3, if_neg o4, if_pos (.inl o5), hm]
   have hcast : ((n.kids.length - 1 : Nat) : Int) = (n.kids.length : Int) - 1 := by omega
   have HCC : Hid (Calls Tryz.prog 59 #[.pointer (some ⟨W, 0, none⟩), (.agg #[.string ⟨n.op.toArray⟩, .int .i64 n.int, .string ⟨n.text.toArray⟩, .int .i64 n.ty.kind, .slice A n.ty.args.length c, .slice K n.kids.length k])] w1 fun e w' => InOut w1 w' W P it sides names NA nk AV ps e (zM FT it sides (r + 1) names ps n)) := Lib.hid (by
    rw [HE]
    refine each_any W P S it sides names NA nk AV ps _ n (kidN n 1) dn _ _ w1 HW1.out (by omega) hnil hk64 (kidN_get (by omega)) true hm (fun t ht h7 => ?_) HN1.out (fun k hk => HW1.out.sep k (HSP.out k hk)) ?_ ?_
    · obtain ⟨a, ha, _⟩ := (HRT.out _ _ _ _ HNM.out ht).arg h7
      exact ⟨a, ha⟩
    · intro w2 hw2 hn2 hs2
      have h := kid_of HIH.out W P S names NA nk AV ps _ n dn 0 w2 HNM.out hw2 HSP.out (by omega) hnil hps HKI.out (by omega) hn2
      rw [show ((0 : Nat) : Int) = 0 from rfl] at h
      exact h
    · intro P' t AV' g cap w2 ht h7 hw2 hn2 hs2 hPP
      have h := kid_of HIH.out W P' S (names ++ [((kidN n 1).text, t.args.headD ty0)]) (some ⟨g, 0, none⟩) cap AV' ps _ n dn (n.kids.length - 1) w2 (fun x hx => by
       rcases List.mem_append.1 hx with hx | hx
       · exact HNM.out x hx
       · obtain rfl := List.mem_singleton.1 hx
         obtain ⟨a, ha, hra⟩ := (HRT.out _ _ _ _ HNM.out ht).arg h7
         rw [ha]
         exact hra) hw2 (fun k hk => hPP k (HSP.out k hk)) (by rw [List.length_append]; simp; omega) (fun h => by simp at h) hps HKI.out (by omega) hn2
      rw [hcast] at h
      exact h)
   clear h3 hcast o5 o4 o3 o2 o1 HE oSide oLet oMap oFold hm
   go_enter Tryz.func33, Tryz.ntmps33
   go_wp2_with (fail)
   refine HCC.out.mono ?_
   rintro e w5 ho
   obtain ⟨res, hres⟩ : ∃ res, res = zM FT it sides (r + 1) names ps n := ⟨_, rfl⟩
   rw [← hres] at ho
   have HI := Lib.hid hres.symm
   clear hres HCC
   cases res with
   | error x =>
     obtain ⟨no, qs⟩ := x
     obtain ⟨hno, AV5, rfl, hWI, hWS⟩ := ho
     have hr5 := (hWS.block (w.heap.size + 1) (by omega) (by omega) (fun e => by have := HOWL.out _ e.symm; omega)).trans H11.out
     have y0 := zD (i := 0) hr5 rfl
     have y1 := zD (i := 1) hr5 rfl
     have yf0 := zI (i := 0) hr5
     have yf1 := zI (i := 1) hr5
     have HWI := Lib.hid hWI
     have HWS := Lib.hid hWS
     clear hr5 hWI hWS
     go_wp2_with (fail)
     refine bodyPost_ret (v := .tuple #[.agg #[.int .i64 0, .slice none 0 0], .int .i64 no]) (by simp [results, Tryz.results33, go_sem, y0, y1]) rfl ?_
     rw [HI.out]
     exact kid_err HW.out HWI.out ((WkS.of_below HB1.out).trans HWS.out) hno (HOW5.out _ _ HWS.out) (HFAR.out _ _ _ _ rfl) (by simp [World.setCell]) ⟨rfl, rfl, rfl⟩
   | ok t =>
     obtain ⟨AV5, v, d5, rfl, hT5, hWI, hWS⟩ := ho
     obtain ⟨A5, k5, rfl⟩ := hT5.form
     have hr5 := (hWS.block (w.heap.size + 1) (by omega) (by omega) (fun e => by have := HOWL.out _ e.symm; omega)).trans H11.out
     have y0 := zD (i := 0) hr5 rfl
     have y1 := zD (i := 1) hr5 rfl
     have yf0 := zI (i := 0) hr5
     have yf1 := zI (i := 1) hr5
     have HWI := Lib.hid hWI
     have HWS := Lib.hid hWS
     have HT5 : Hid (TyAt w5 (fun k => P k ∨ (w.heap.size + 2 ≤ k ∧ k < w5.heap.size ∧ some k ≠ AV5.ownBlock)) d5 (.agg #[.int .i64 t.kind, .slice A5 t.args.length k5]) t) := Lib.hid (hT5.move fun b hb _ => ⟨hb.imp id fun ⟨h1, h2, h3⟩ => ⟨by omega, h2, h3⟩, fun _ => rfl⟩)
     clear hr5 hWI hWS hT5
     go_wp2_with (fail)
     refine bodyPost_ret (v := .tuple #[.agg #[.int .i64 t.kind, .slice A5 t.args.length k5], .int .i64 0]) (by simp [results, Tryz.results33, go_sem, y0, y1]) rfl ?_
     rw [HI.out]
     exact ret_ok HW.out HWI.out ((WkS.of_below HB1.out).trans HWS.out) (HOW5.out _ _ HWS.out) (HFAR.out _ _ _ _ rfl) (by simp [World.setCell]) ⟨rfl, rfl, rfl⟩ HT5.out
 have f5 : (n.op == [109, 97, 112]) = false := by simp [o5]
 by_cases o6 : n.op = [102, 105, 108, 116, 101, 114]
 · have e6 : (n.op == [102, 105, 108, 116, 101, 114]) = true := by simp [o6]
   have h3 := oMap (.inr o6)
   have hm : (n.op == [109, 97, 112]) = false := by simp [o5]
   have HE : zM FT it sides (r + 1) names ps n = eachR false ps (zM FT it sides r names (ps ++ [0]) (kidN n 0)) fun a => zM FT it sides r (names ++ [((kidN n 1).text, a)]) (ps ++ [(n.kids.length : Int) - 1]) (kidN n (n.kids.length - 1)) := by rw [zM, if_neg o1, if_neg o2, if_neg o3, if_neg o4, if_pos (.inr o6), hm]
   have hcast : ((n.kids.length - 1 : Nat) : Int) = (n.kids.length : Int) - 1 := by omega
   have HCC : Hid (Calls Tryz.prog 59 #[.pointer (some ⟨W, 0, none⟩), (.agg #[.string ⟨n.op.toArray⟩, .int .i64 n.int, .string ⟨n.text.toArray⟩, .int .i64 n.ty.kind, .slice A n.ty.args.length c, .slice K n.kids.length k])] w1 fun e w' => InOut w1 w' W P it sides names NA nk AV ps e (zM FT it sides (r + 1) names ps n)) := Lib.hid (by
    rw [HE]
    refine each_any W P S it sides names NA nk AV ps _ n (kidN n 1) dn _ _ w1 HW1.out (by omega) hnil hk64 (kidN_get (by omega)) false hm (fun t ht h7 => ?_) HN1.out (fun k hk => HW1.out.sep k (HSP.out k hk)) ?_ ?_
    · obtain ⟨a, ha, _⟩ := (HRT.out _ _ _ _ HNM.out ht).arg h7
      exact ⟨a, ha⟩
    · intro w2 hw2 hn2 hs2
      have h := kid_of HIH.out W P S names NA nk AV ps _ n dn 0 w2 HNM.out hw2 HSP.out (by omega) hnil hps HKI.out (by omega) hn2
      rw [show ((0 : Nat) : Int) = 0 from rfl] at h
      exact h
    · intro P' t AV' g cap w2 ht h7 hw2 hn2 hs2 hPP
      have h := kid_of HIH.out W P' S (names ++ [((kidN n 1).text, t.args.headD ty0)]) (some ⟨g, 0, none⟩) cap AV' ps _ n dn (n.kids.length - 1) w2 (fun x hx => by
       rcases List.mem_append.1 hx with hx | hx
       · exact HNM.out x hx
       · obtain rfl := List.mem_singleton.1 hx
         obtain ⟨a, ha, hra⟩ := (HRT.out _ _ _ _ HNM.out ht).arg h7
         rw [ha]
         exact hra) hw2 (fun k hk => hPP k (HSP.out k hk)) (by rw [List.length_append]; simp; omega) (fun h => by simp at h) hps HKI.out (by omega) hn2
      rw [hcast] at h
      exact h)
   clear h3 hcast o6 o5 o4 o3 o2 o1 HE oSide oLet oMap oFold hm
   go_enter Tryz.func33, Tryz.ntmps33
   go_wp2_with (fail)
   refine HCC.out.mono ?_
   rintro e w5 ho
   obtain ⟨res, hres⟩ : ∃ res, res = zM FT it sides (r + 1) names ps n := ⟨_, rfl⟩
   rw [← hres] at ho
   have HI := Lib.hid hres.symm
   clear hres HCC
   cases res with
   | error x =>
     obtain ⟨no, qs⟩ := x
     obtain ⟨hno, AV5, rfl, hWI, hWS⟩ := ho
     have hr5 := (hWS.block (w.heap.size + 1) (by omega) (by omega) (fun e => by have := HOWL.out _ e.symm; omega)).trans H11.out
     have y0 := zD (i := 0) hr5 rfl
     have y1 := zD (i := 1) hr5 rfl
     have yf0 := zI (i := 0) hr5
     have yf1 := zI (i := 1) hr5
     have HWI := Lib.hid hWI
     have HWS := Lib.hid hWS
     clear hr5 hWI hWS
     go_wp2_with (fail)
     refine bodyPost_ret (v := .tuple #[.agg #[.int .i64 0, .slice none 0 0], .int .i64 no]) (by simp [results, Tryz.results33, go_sem, y0, y1]) rfl ?_
     rw [HI.out]
     exact kid_err HW.out HWI.out ((WkS.of_below HB1.out).trans HWS.out) hno (HOW5.out _ _ HWS.out) (HFAR.out _ _ _ _ rfl) (by simp [World.setCell]) ⟨rfl, rfl, rfl⟩
   | ok t =>
     obtain ⟨AV5, v, d5, rfl, hT5, hWI, hWS⟩ := ho
     obtain ⟨A5, k5, rfl⟩ := hT5.form
     have hr5 := (hWS.block (w.heap.size + 1) (by omega) (by omega) (fun e => by have := HOWL.out _ e.symm; omega)).trans H11.out
     have y0 := zD (i := 0) hr5 rfl
     have y1 := zD (i := 1) hr5 rfl
     have yf0 := zI (i := 0) hr5
     have yf1 := zI (i := 1) hr5
     have HWI := Lib.hid hWI
     have HWS := Lib.hid hWS
     have HT5 : Hid (TyAt w5 (fun k => P k ∨ (w.heap.size + 2 ≤ k ∧ k < w5.heap.size ∧ some k ≠ AV5.ownBlock)) d5 (.agg #[.int .i64 t.kind, .slice A5 t.args.length k5]) t) := Lib.hid (hT5.move fun b hb _ => ⟨hb.imp id fun ⟨h1, h2, h3⟩ => ⟨by omega, h2, h3⟩, fun _ => rfl⟩)
     clear hr5 hWI hWS hT5
     go_wp2_with (fail)
     refine bodyPost_ret (v := .tuple #[.agg #[.int .i64 t.kind, .slice A5 t.args.length k5], .int .i64 0]) (by simp [results, Tryz.results33, go_sem, y0, y1]) rfl ?_
     rw [HI.out]
     exact ret_ok HW.out HWI.out ((WkS.of_below HB1.out).trans HWS.out) (HOW5.out _ _ HWS.out) (HFAR.out _ _ _ _ rfl) (by simp [World.setCell]) ⟨rfl, rfl, rfl⟩ HT5.out
 have f6 : (n.op == [102, 105, 108, 116, 101, 114]) = false := by simp [o6]
 by_cases o7 : n.op = [102, 111, 108, 100]
 · have e7 : (n.op == [102, 111, 108, 100]) = true := by simp [o7]
   have h3 := oFold o7
   have HE : zM FT it sides (r + 1) names ps n = foldR ps (yC (fun i => zM FT it sides r names (ps ++ [(i : Int)]) (kidN n i)) 2 0) fun d a => zM FT it sides r (names ++ [((kidN n 2).text, d), ((kidN n 3).text, a)]) (ps ++ [(n.kids.length : Int) - 1]) (kidN n (n.kids.length - 1)) := by rw [zM, if_neg o1, if_neg o2, if_neg o3, if_neg o4, if_neg (by simp [o5, o6]), if_pos o7]
   have hcast : ((n.kids.length - 1 : Nat) : Int) = (n.kids.length : Int) - 1 := by omega
   have HCC : Hid (Calls Tryz.prog 60 #[.pointer (some ⟨W, 0, none⟩), (.agg #[.string ⟨n.op.toArray⟩, .int .i64 n.int, .string ⟨n.text.toArray⟩, .int .i64 n.ty.kind, .slice A n.ty.args.length c, .slice K n.kids.length k])] w1 fun e w' => InOut w1 w' W P it sides names NA nk AV ps e (zM FT it sides (r + 1) names ps n)) := Lib.hid (by
    rw [HE]
    refine fold_any W P S it sides names NA nk AV ps _ n (kidN n 2) (kidN n 3) dn _ _ w1 HW1.out (by omega) hnil hk64 (kidN_get (by omega)) (kidN_get (by omega)) (fun t ht h7 => ?_) HN1.out (fun k hk => HW1.out.sep k (HSP.out k hk)) ?_ ?_
    · obtain ⟨a, ha, _⟩ := (HRT.out _ _ _ _ HNM.out ht).arg h7
      exact ⟨a, ha⟩
    · intro i AV' w2 hi hw2 hn2 hs2
      exact kid_of HIH.out W P S names NA nk AV' ps _ n dn i w2 HNM.out hw2 HSP.out (by omega) hnil hps HKI.out (by omega) hn2
    · intro P' t d AV' g cap w2 ht hd h7 hw2 hn2 hs2 hPP
      have h := kid_of HIH.out W P' S (names ++ [((kidN n 2).text, d), ((kidN n 3).text, t.args.headD ty0)]) (some ⟨g, 0, none⟩) cap AV' ps _ n dn (n.kids.length - 1) w2 (fun x hx => by
       rcases List.mem_append.1 hx with hx | hx
       · exact HNM.out x hx
       · rcases List.mem_cons.1 hx with rfl | hx
         · exact HRT.out _ _ _ _ HNM.out hd
         · obtain rfl := List.mem_singleton.1 hx
           obtain ⟨a, ha, hra⟩ := (HRT.out _ _ _ _ HNM.out ht).arg h7
           rw [ha]
           exact hra) hw2 (fun k hk => hPP k (HSP.out k hk)) (by rw [List.length_append]; simp; omega) (fun h => by simp at h) hps HKI.out (by omega) hn2
      rw [hcast] at h
      exact h)
   clear h3 hcast o7 o6 o5 o4 o3 o2 o1 HE oSide oLet oMap oFold
   go_enter Tryz.func33, Tryz.ntmps33
   go_wp2_with (fail)
   refine HCC.out.mono ?_
   rintro e w5 ho
   obtain ⟨res, hres⟩ : ∃ res, res = zM FT it sides (r + 1) names ps n := ⟨_, rfl⟩
   rw [← hres] at ho
   have HI := Lib.hid hres.symm
   clear hres HCC
   cases res with
   | error x =>
     obtain ⟨no, qs⟩ := x
     obtain ⟨hno, AV5, rfl, hWI, hWS⟩ := ho
     have hr5 := (hWS.block (w.heap.size + 1) (by omega) (by omega) (fun e => by have := HOWL.out _ e.symm; omega)).trans H11.out
     have y0 := zD (i := 0) hr5 rfl
     have y1 := zD (i := 1) hr5 rfl
     have yf0 := zI (i := 0) hr5
     have yf1 := zI (i := 1) hr5
     have HWI := Lib.hid hWI
     have HWS := Lib.hid hWS
     clear hr5 hWI hWS
     go_wp2_with (fail)
     refine bodyPost_ret (v := .tuple #[.agg #[.int .i64 0, .slice none 0 0], .int .i64 no]) (by simp [results, Tryz.results33, go_sem, y0, y1]) rfl ?_
     rw [HI.out]
     exact kid_err HW.out HWI.out ((WkS.of_below HB1.out).trans HWS.out) hno (HOW5.out _ _ HWS.out) (HFAR.out _ _ _ _ rfl) (by simp [World.setCell]) ⟨rfl, rfl, rfl⟩
   | ok t =>
     obtain ⟨AV5, v, d5, rfl, hT5, hWI, hWS⟩ := ho
     obtain ⟨A5, k5, rfl⟩ := hT5.form
     have hr5 := (hWS.block (w.heap.size + 1) (by omega) (by omega) (fun e => by have := HOWL.out _ e.symm; omega)).trans H11.out
     have y0 := zD (i := 0) hr5 rfl
     have y1 := zD (i := 1) hr5 rfl
     have yf0 := zI (i := 0) hr5
     have yf1 := zI (i := 1) hr5
     have HWI := Lib.hid hWI
     have HWS := Lib.hid hWS
     have HT5 : Hid (TyAt w5 (fun k => P k ∨ (w.heap.size + 2 ≤ k ∧ k < w5.heap.size ∧ some k ≠ AV5.ownBlock)) d5 (.agg #[.int .i64 t.kind, .slice A5 t.args.length k5]) t) := Lib.hid (hT5.move fun b hb _ => ⟨hb.imp id fun ⟨h1, h2, h3⟩ => ⟨by omega, h2, h3⟩, fun _ => rfl⟩)
     clear hr5 hWI hWS hT5
     go_wp2_with (fail)
     refine bodyPost_ret (v := .tuple #[.agg #[.int .i64 t.kind, .slice A5 t.args.length k5], .int .i64 0]) (by simp [results, Tryz.results33, go_sem, y0, y1]) rfl ?_
     rw [HI.out]
     exact ret_ok HW.out HWI.out ((WkS.of_below HB1.out).trans HWS.out) (HOW5.out _ _ HWS.out) (HFAR.out _ _ _ _ rfl) (by simp [World.setCell]) ⟨rfl, rfl, rfl⟩ HT5.out
 have f7 : (n.op == [102, 111, 108, 100]) = false := by simp [o7]
 have HFO2 := Lib.hid (HFO.out ⟨o1, o2, o3, o4, o5, o6, o7⟩)
 have HE : Hid (zM FT it sides (r + 1) names ps n = comeR ps (FT n) (yC (fun i => zM FT it sides r names (ps ++ [(i : Int)]) (kidN n i)) n.kids.length 0)) := Lib.hid (by rw [zM, if_neg o1, if_neg o2, if_neg o3, if_neg o4, if_neg (by simp [o5, o6]), if_neg o7])
 have HCK := Lib.hid (ckids_any W P S it sides names NA nk AV ps _ n dn n.kids.length (fun i => zM FT it sides r names (ps ++ [(i : Int)]) (kidN n i)) w1 HW1.out hk64 HN1.out (fun k hk => HW1.out.sep k (HSP.out k hk)) (fun i AV' w2 hi hw2 hn2 hs2 => kid_of HIH.out W P S names NA nk AV' ps _ n dn i w2 HNM.out hw2 HSP.out (by omega) hnil hps HKI.out hi hn2))
 clear o1 o2 o3 o4 o5 o6 o7 oSide oLet oMap oFold
 go_enter Tryz.func33, Tryz.ntmps33
 go_wp2_with (fail)
 refine HCK.out.mono ?_
 rintro e w5 ho
 cases hk : yC (fun i => zM FT it sides r names (ps ++ [(i : Int)]) (kidN n i)) n.kids.length 0 with
 | error x =>
   obtain ⟨no, qs⟩ := x
   rw [hk] at ho
   obtain ⟨hno, AV5, rfl, hWI, hWS⟩ := ho
   have HI : Hid (zM FT it sides (r + 1) names ps n = .error (no, qs)) := Lib.hid (by rw [HE.out, hk]; rfl)
   have hr5 := (hWS.block (w.heap.size + 1) (by omega) (by omega) (fun e => by have := HOWL.out _ e.symm; omega)).trans H11.out
   have y0 := zD (i := 0) hr5 rfl
   have y1 := zD (i := 1) hr5 rfl
   have yf0 := zI (i := 0) hr5
   have yf1 := zI (i := 1) hr5
   have HWI := Lib.hid hWI
   have HWS := Lib.hid hWS
   have hno' : (no == 0) = false := by simp [hno]
   clear hr5 hWI hWS hk HCK
   go_wp2_with (fail)
   refine bodyPost_ret (v := .tuple #[.agg #[.int .i64 0, .slice none 0 0], .int .i64 no]) (by simp [results, Tryz.results33, go_sem, y0, y1]) rfl ?_
   rw [HI.out]
   exact kid_err HW.out HWI.out ((WkS.of_below HB1.out).trans HWS.out) hno (HOW5.out _ _ HWS.out) (HFAR.out _ _ _ _ rfl) (by simp [World.setCell]) ⟨rfl, rfl, rfl⟩
 | ok ts =>
   rw [hk] at ho
   obtain ⟨AV3, NB, cs, rfl, hlen, hKI⟩ := ho
   have HI : Hid (zM FT it sides (r + 1) names ps n = optR 50 ps (comeF ts (FT n))) := Lib.hid (by rw [HE.out, hk]; rfl)
   have hWS := hKI.step
   have hWI := hKI.walk
   have hs5 := hWS.size
   have hn5 := (hWS.block w.heap.size (by omega) (by omega) (fun e => by have := HOWL.out _ e.symm; omega)).trans H10.out
   have hr5 := (hWS.block (w.heap.size + 1) (by omega) (by omega) (fun e => by have := HOWL.out _ e.symm; omega)).trans H11.out
   have m0 : w5.cell? ⟨w.heap.size, 0, none⟩ = some (.string ⟨n.op.toArray⟩) := zD (i := 0) hn5 rfl
   have m1 : w5.cell? ⟨w.heap.size, 1, none⟩ = some (.int .i64 n.int) := zD (i := 1) hn5 rfl
   have m2 : w5.cell? ⟨w.heap.size, 2, none⟩ = some (.string ⟨n.text.toArray⟩) := zD (i := 2) hn5 rfl
   have m3 : w5.cell? ⟨w.heap.size, 3, none⟩ = some (.int .i64 n.ty.kind) := zD (i := 3) hn5 rfl
   have m4 : w5.cell? ⟨w.heap.size, 4, none⟩ = some (.slice A n.ty.args.length c) := zD (i := 4) hn5 rfl
   have m5 : w5.cell? ⟨w.heap.size, 5, none⟩ = some (.slice K n.kids.length k) := zD (i := 5) hn5 rfl
   have hS5 : ∀ k, S k → Fr w5.heap.size W AV3 k ∧ w5.heap[k]? = w1.heap[k]? := fun k hk => Fr.step hWS (HW1.out.sep k (HSP.out k hk))
   have hN5 := HN1.out.move (w' := w5) (S' := S) (fun b hb' _ => ⟨hb', fun _ => World.cell?_of_block (hS5 b hb').2⟩)
   have HFC := Lib.hid (HHF.out.2 S dn _ n w5 HFO2.out hN5 (fun k hk => (hS5 k hk).1.1))
   have HKD := Lib.hid hKI
   have HO5 := Lib.hid (HOW5.out _ _ hWS)
   have HO5l : Hid (∀ g, AV3.ownBlock = some g → g < w5.heap.size ∧ g ≠ w1.heap.size + 1) := Lib.hid fun g hg => ⟨hWI.ownlt g hg, by rcases hKI.own g hg with h | h <;> omega⟩
   have HWI := Lib.hid hWI
   have HWS := Lib.hid ((WkS.of_below (W := W) (AV := AV) HB1.out).trans hWS)
   have HR5 := Lib.hid hr5
   have hR5l := zC hr5
   have HLEN := Lib.hid hlen
   clear hk HCK hKI hWS hWI hn5 hr5 hS5 hN5 hlen n0 n1 n2 n3 n4 n5 x0 x1 xf0 xf1
   have hs1' := Lib.hid hs1
   clear hs1
   go_wp2_with (fail)
   refine HFC.out.mono ?_
   rintro e w6 ⟨⟨FA, fk, DF, rfl, hFM⟩, hb6⟩
   have hs6 := hb6.size
   obtain ⟨DT, hargs⟩ := HKD.out.args
   have htb := HKD.out.tbl
   have htbl := zC htb
   have h1s := hs1'.out
   have hP6 : ∀ k, (P k ∨ (w.heap.size + 2 ≤ k ∧ k < w6.heap.size ∧ some k ≠ AV3.ownBlock)) → k < w6.heap.size := fun k hk => by
    rcases hk with h | h
    · have := (HW.out.sep k h).1; omega
    · exact h.2.1
   have hT6 : Knd.yE w6 (fun k => P k ∨ (w.heap.size + 2 ≤ k ∧ k < w6.heap.size ∧ some k ≠ AV3.ownBlock)) (max (max DT DF) 1) (some ⟨w1.heap.size + 1, 0, none⟩) ts := fun hl => ⟨w1.heap.size + 1, 0, rfl, .inr ⟨by omega, by omega, fun e => (HO5l.out _ e.symm).2 rfl⟩, fun j a ha => by
    obtain ⟨u0, u1, e0, e1, hTa⟩ := hargs j a ha
    have z0 : w5.cell? ⟨w1.heap.size + 1, j * 2, none⟩ = some u0 := zD (i := j * 2) htb (by simpa using e0)
    have z1 : w5.cell? ⟨w1.heap.size + 1, j * 2 + 1, none⟩ = some u1 := zD (i := j * 2 + 1) htb (by simpa using e1)
    have z0 := (hb6.cell (p := ⟨w1.heap.size + 1, j * 2, none⟩) htbl).trans z0
    have z1 := (hb6.cell (p := ⟨w1.heap.size + 1, j * 2 + 1, none⟩) htbl).trans z1
    exact ⟨u0, u1, by simpa using z0, by simpa using z1, ty_more _ _ (by omega) ((hTa.below hb6).move fun b hb _ => ⟨hb.imp id fun ⟨h1, h2, h3⟩ => ⟨by omega, by omega, h3⟩, fun _ => rfl⟩)⟩⟩
   have hF6 : FormsAt w6 (fun k => P k ∨ (w.heap.size + 2 ≤ k ∧ k < w6.heap.size ∧ some k ≠ AV3.ownBlock)) (max (max DT DF) 1) FA (FT n) := forms_more hFM (by omega) fun k hk => by
    rcases hk with h | ⟨h1, h2⟩
    · exact .inl (HSP.out k h)
    · exact .inr ⟨by omega, h2, fun e => by have := (HO5l.out _ e.symm).1; omega⟩
   have hWI6 := HWI.out.low_ hb6
   have hCM := come_any (fun k => P k ∨ (w.heap.size + 2 ≤ k ∧ k < w6.heap.size ∧ some k ≠ AV3.ownBlock)) (max (max DT DF) 1) (some ⟨w1.heap.size + 1, 0, none⟩) FA n.kids.length fk ts (FT n) w6 hP6 hT6 hF6 (HHF.out.1 n HFO2.out).1 (HHF.out.1 n HFO2.out).2 (by omega) hWI6.glob
   rw [HLEN.out] at hCM
   have HCM := Lib.hid hCM
   have HB6 := Lib.hid hb6
   clear hCM hFM hargs htb hP6 hT6 hF6 hWI6 h1s
   go_wp2_with (fail)
   refine HCM.out.mono ?_
   rintro e w7 ⟨hco, hb7⟩
   have hb57 := HB6.out.trans (hb7.mono hs6)
   have hs7 := hb7.size
   have hr7 := (hb57.block (w.heap.size + 1) hR5l).trans HR5.out
   have y0 := zD (i := 0) hr7 rfl
   have y1 := zD (i := 1) hr7 rfl
   have yf0 := zI (i := 0) hr7
   have yf1 := zI (i := 1) hr7
   have HWI7 := Lib.hid (HWI.out.low_ hb57)
   have HST7 := Lib.hid (HWS.out.trans (WkS.of_below (W := W) (AV := AV3) hb57))
   clear hr7 hb57 hb7 HCM HFC
   cases hcm : comeF ts (FT n) with
   | none =>
     rw [hcm] at hco
     obtain rfl : e = .returned (.tuple #[.agg #[.int .i64 0, .slice none 0 0], .int .i64 50]) := hco
     have HI : Hid (zM FT it sides (r + 1) names ps n = .error (50, ps)) := Lib.hid (by rw [HI.out, hcm]; rfl)
     clear hcm
     go_wp2_with (fail)
     refine bodyPost_ret (v := .tuple #[.agg #[.int .i64 0, .slice none 0 0], .int .i64 50]) (by simp [results, Tryz.results33, go_sem, y0, y1]) rfl ?_
     rw [HI.out]
     exact kid_err HW.out HWI7.out HST7.out (by decide) HO5.out (HFAR.out _ _ _ _ rfl) (by simp [World.setCell]) ⟨rfl, rfl, rfl⟩
   | some t =>
     rw [hcm] at hco
     obtain ⟨v, rfl, hTv⟩ := hco
     obtain ⟨A5, k5, rfl⟩ := hTv.form
     have HI : Hid (zM FT it sides (r + 1) names ps n = .ok t) := Lib.hid (by rw [HI.out, hcm]; rfl)
     have HTv : Hid (TyAt w7 (fun k => P k ∨ (w.heap.size + 2 ≤ k ∧ k < w7.heap.size ∧ some k ≠ AV3.ownBlock)) (max (max DT DF) 1 + 9) (.agg #[.int .i64 t.kind, .slice A5 t.args.length k5]) t) := Lib.hid (hTv.move fun b hb hl => ⟨by
      rcases hb with (h | ⟨h1, h2, h3⟩) | h
      · exact .inl h
      · exact .inr ⟨h1, hl, h3⟩
      · have h : w6.heap.size < b := h
        exact .inr ⟨by omega, hl, fun e => by have := (HO5l.out _ e.symm).1; omega⟩, fun _ => rfl⟩)
     clear hcm hTv
     go_wp2_with (fail)
     refine bodyPost_ret (v := .tuple #[.agg #[.int .i64 t.kind, .slice A5 t.args.length k5], .int .i64 0]) (by simp [results, Tryz.results33, go_sem, y0, y1]) rfl ?_
     rw [HI.out]
     exact ret_ok HW.out HWI7.out HST7.out HO5.out (HFAR.out _ _ _ _ rfl) (by simp [World.setCell]) ⟨rfl, rfl, rfl⟩ HTv.out
theorem infer_any (FT : Nd → List (List Ty)) (FO : Nd → Prop) (it : Ty) (sides : List Ty) (hit : RT it) (hsd : ∀ t ∈ sides, RT t) (HF : FormsC FT FO) : ∀ r, InferOk FT FO it sides r
 | 0 => fun _ _ _ _ _ _ _ _ _ _ _ _ _ _ _ _ _ _ h => h.elim
 | r + 1 => infer_step FT FO it sides hit hsd HF r (infer_any FT FO it sides hit hsd HF r)
