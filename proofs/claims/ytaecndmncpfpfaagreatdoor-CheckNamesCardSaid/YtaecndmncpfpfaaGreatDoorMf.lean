import Derived.Test.YtaecndmncpfpfaaGreatDoorLh
import Derived.Test.YtaecndmncpfpfaaGreatDoorEj
import Derived.Test.YtaecndmncpfpfaaGreatDoorSzp
import Derived.Test.YtaecndmncpfpfaaGreatDoorSm
import Derived.Lib.SlicesCompact
set_option linter.unusedVariables false
set_option linter.unusedSimpArgs false
namespace Go.Proofs.YtaecndmncpfpfaaGreatDoor.L5
open Go.RowKit
theorem kidsR_more {f f' : Nat → Except (Int × List Int) Ty} (h : ∀ j t, f j = .ok t → f' j = .ok t) : ∀ (m i : Nat) (ts : List Ty), yC f m i = .ok ts → yC f' m i = .ok ts
 | 0, _, ts, e => e
 | m + 1, i, ts, e => by
   unfold yC at e ⊢
   cases h1 : f i with
   | error x => rw [h1] at e; cases e
   | ok t =>
     rw [h1] at e
     rw [h i t h1]
     simp only at e ⊢
     cases h2 : yC f m (i + 1) with
     | error x => rw [h2] at e; cases e
     | ok us =>
       rw [h2] at e
       rw [kidsR_more h m (i + 1) us h2]
       exact e
theorem step_more {it m : Ty} {sides : List Ty} {names : List (List UInt8 × Ty)} {ps : List Int} {op : List UInt8} {i : Int} {tx : List UInt8} {len : Nat} {fs : List (List Ty)} {kt : Nat → List UInt8} {F F' : List (List UInt8 × Ty) → List Int → Nat → Except (Int × List Int) Ty}
    (hF : ∀ N P j t, F N P j = .ok t → F' N P j = .ok t) {t : Ty} (h : stepT it sides names ps op i tx len fs kt F = .ok t) : stepT it (sides ++ [m]) names ps op i tx len fs kt F' = .ok t := by
 unfold stepT at h ⊢
 by_cases o1 : op = [105, 116]
 · rw [if_pos o1] at h ⊢; exact h
 rw [if_neg o1] at h ⊢
 by_cases o2 : op = [115, 105, 100, 101]
 · rw [if_pos o2] at h ⊢
   cases hs : sides[i.toNat]? with
   | none => rw [hs] at h; cases h
   | some u =>
     rw [hs] at h
     have hl := (List.getElem?_eq_some_iff.1 hs).1
     rw [List.getElem?_append_left hl, hs]
     exact h
 rw [if_neg o2] at h ⊢
 by_cases o3 : op = [110, 97, 109, 101]
 · rw [if_pos o3] at h ⊢; exact h
 rw [if_neg o3] at h ⊢
 by_cases o4 : op = [108, 101, 116]
 · rw [if_pos o4] at h ⊢
   cases h1 : F names (ps ++ [1]) 1 with
   | error x => rw [h1] at h; cases h
   | ok u =>
     rw [h1] at h
     rw [hF _ _ _ _ h1]
     exact hF _ _ _ _ h
 rw [if_neg o4] at h ⊢
 by_cases o5 : op = [109, 97, 112] ∨ op = [102, 105, 108, 116, 101, 114]
 · rw [if_pos o5] at h ⊢
   cases h1 : F names (ps ++ [0]) 0 with
   | error x => rw [h1] at h; cases h
   | ok u =>
     rw [h1] at h
     rw [hF _ _ _ _ h1]
     unfold eachR at h ⊢
     simp only at h ⊢
     by_cases hk : u.kind = 7
     · rw [if_pos hk] at h ⊢
       cases h2 : F (names ++ [(kt 1, u.args.headD ty0)]) (ps ++ [(len : Int) - 1]) (len - 1) with
       | error x => rw [h2] at h; cases h
       | ok v => rw [h2] at h; rw [hF _ _ _ _ h2]; exact h
     · rw [if_neg hk] at h; cases h
 rw [if_neg o5] at h ⊢
 by_cases o6 : op = [102, 111, 108, 100]
 · rw [if_pos o6] at h ⊢
   cases h1 : yC (fun i => F names (ps ++ [(i : Int)]) i) 2 0 with
   | error x => rw [h1] at h; cases h
   | ok us =>
     rw [h1] at h
     rw [kidsR_more (f' := fun i => F' names (ps ++ [(i : Int)]) i) (fun j t => hF _ _ _ t) 2 0 us h1]
     unfold foldR at h ⊢
     simp only at h ⊢
     by_cases hk : (us.headD ty0).kind = 7
     · rw [if_pos hk] at h ⊢
       cases h2 : F (names ++ [(kt 2, us.getD 1 ty0), (kt 3, (us.headD ty0).args.headD ty0)]) (ps ++ [(len : Int) - 1]) (len - 1) with
       | error x => rw [h2] at h; cases h
       | ok v => rw [h2] at h; rw [hF _ _ _ _ h2]; exact h
     · rw [if_neg hk] at h; cases h
 rw [if_neg o6] at h ⊢
 cases h1 : yC (fun i => F names (ps ++ [(i : Int)]) i) len 0 with
 | error x => rw [h1] at h; cases h
 | ok us =>
   rw [h1] at h
   rw [kidsR_more (f' := fun i => F' names (ps ++ [(i : Int)]) i) (fun j t => hF _ _ _ t) len 0 us h1]
   exact h
theorem infer_more (FT : Nd → List (List Ty)) (it m : Ty) (sides : List Ty) : ∀ (r : Nat) (names : List (List UInt8 × Ty)) (ps : List Int) (n : Nd) (t : Ty), zM FT it sides r names ps n = .ok t → zM FT it (sides ++ [m]) r names ps n = .ok t
 | 0, names, ps, n, t, h => by simp [zM] at h ⊢
 | r + 1, names, ps, n, t, h => by
   rw [inferT_step] at h ⊢
   exact step_more (fun N P j u hu => infer_more FT it m sides r N P (kidN n j) u hu) h
end Go.Proofs.YtaecndmncpfpfaaGreatDoor.L5
namespace Go.Proofs.YtaecndmncpfpfaaGreatDoor
open Go.RowKit
def yH (op : List UInt8) : List UInt8 := match wdP op with
 | none => []
 | some (p, _) => p
def freeK (f : Nd → List (List UInt8) → List (List UInt8)) : List Nd → List UInt8 → List (List UInt8) → List (List UInt8) → List (List UInt8) → List (List UInt8)
 | [], _, _, _, names => names
 | _ :: _, [], _, _, names => names
 | k :: l, p :: ps, b, own, names => if p = 110 then freeK f l ps b (own ++ [k.text]) names
     else freeK f l ps b own (names ++ f k (if l.isEmpty then b ++ own else b))
def yA : Nat → Nd → List (List UInt8) → List (List UInt8)
 | 0, _, _ => []
 | r + 1, n, b => if n.op = nameW then (if n.text ∈ b then [] else [n.text]) else freeK (yA r) n.kids (yH n.op) b [] []
theorem termW_kids {r : Nat} {n : Nd} {s s' : StW} (h : zJ (r + 1) n s = some s') (hn : n.op ≠ nameW) : n.kids.length ≤ (yH n.op).length ∧ ∀ k ∈ n.kids, ∃ s s', zJ r k s = some s' := by
 have nil : n.kids = [] → n.kids.length ≤ (yH n.op).length ∧ ∀ k ∈ n.kids, ∃ s s', zJ r k s = some s' := fun e => by
  rw [e]
  exact ⟨Nat.zero_le _, fun k hk => by cases hk⟩
 unfold zJ at h
 split at h
 · cases h
 · split at h
   · split at h
     · rename_i hb
       exact nil (yG hb)
     · cases h
   · split at h
     · split at h
       · cases h
       · split at h
         · rename_i hb
           exact nil (yG hb)
         · cases h
     · unfold wordW at h
       split at h
       · cases h
       · rename_i p least hw
         have hp : yH n.op = p := by unfold yH; rw [hw]
         unfold wordP at h
         split at h
         · split at h
           · cases h
           · rename_i hl
             obtain ⟨s2, h2, _⟩ := Option.bind_eq_some_iff.1 h
             rw [hp]
             exact ⟨by omega, kidsW_each _ _ _ _ _ h2⟩
         · split at h
           · split at h
             · cases h
             · split at h
               · rename_i hb
                 exact nil (yG hb)
               · cases h
           · split at h
             · split at h
               · split at h
                 · rename_i hb
                   exact nil (yG hb)
                 · cases h
               · cases h
             · split at h
               · rename_i hb
                 exact nil (yG hb)
               · cases h
theorem showW_term {n : Nd} (h : (showW n).isSome = true) : ∃ s s', zJ 24 n s = some s' := by
 unfold showW at h
 split at h
 · cases h
 · rename_i s hs
   exact ⟨_, _, hs⟩
theorem freeK_all {f : Nd → List (List UInt8) → List (List UInt8)} {P : List UInt8 → Prop} : ∀ (l : List Nd) (ps : List UInt8) (b own names : List (List UInt8)), (∀ k ∈ l, ∀ b, ∀ x ∈ f k b, P x) → (∀ x ∈ names, P x) → ∀ x ∈ freeK f l ps b own names, P x
 | [], _, _, _, _, _, hn => hn
 | _ :: _, [], _, _, _, _, hn => hn
 | k :: l, p :: ps, b, own, names, hf, hn => by
   have hl : ∀ k ∈ l, ∀ b, ∀ x ∈ f k b, P x := fun k hk => hf k (List.mem_cons_of_mem _ hk)
   simp only [freeK]
   split
   · exact freeK_all l ps b _ names hl hn
   · refine freeK_all l ps b own _ hl fun x hx => ?_
     rcases List.mem_append.1 hx with hx | hx
     · exact hn x hx
     · exact hf k (List.mem_cons_self ..) _ x hx
theorem freeT_names : ∀ (r : Nat) (n : Nd) (b : List (List UInt8)), (∃ s s', zJ r n s = some s') → ∀ x ∈ yA r n b, isNm x = true
 | 0, _, _, ⟨s, s', h⟩ => by simp [zJ] at h
 | r + 1, n, b, ⟨s, s', h⟩ => by
   by_cases hn : n.op = nameW
   · simp only [yA, if_pos hn]
     intro x hx
     split at hx
     · cases hx
     · rw [List.mem_singleton] at hx
       subst hx
       unfold zJ at h
       rw [hn] at h
       rw [if_neg (show ¬ nameW = intW by decide), if_neg (show ¬ nameW = textW by decide), if_pos rfl] at h
       split at h
       · cases h
       · split at h
         · assumption
         · cases h
   · simp only [yA, if_neg hn]
     have hk := (termW_kids h hn).2
     exact freeK_all _ _ _ _ _ (fun k hm b x hx => freeT_names r k b (hk k hm) x hx) (fun x hx => by cases hx)
theorem freeK_cnt {f : Nd → List (List UInt8) → List (List UInt8)} {g : Nd → StW → Option StW} : ∀ (l : List Nd) (ps : List UInt8) (mark : UInt8) (s s' : StW) (b own names : List (List UInt8)), (∀ k ∈ l, ∀ s s', g k s = some s' → ∀ b, (f k b).length + s.2 ≤ s'.2) → yD g l ps mark s = some s' →
    (freeK f l ps b own names).length + s.2 ≤ s'.2 + names.length
 | [], _, _, s, s', _, _, names, _, h => by
   simp only [yD, Option.some.injEq] at h
   subst h
   simp only [freeK]
   omega
 | _ :: _, [], _, _, _, _, _, _, _, h => by simp [yD] at h
 | k :: l, p :: ps, mark, s, s', b, own, names, hf, h => by
   unfold yD at h
   split at h
   · cases h
   · split at h
     · cases h
     · rename_i s2 h2
       have hl : ∀ k ∈ l, ∀ s s', g k s = some s' → ∀ b, (f k b).length + s.2 ≤ s'.2 := fun k hk => hf k (List.mem_cons_of_mem _ hk)
       have hk := fun b => hf k (List.mem_cons_self ..) _ _ h2 b
       simp only [freeK]
       split
       · have h3 := freeK_cnt l ps 44 s2 s' b (own ++ [k.text]) names hl h
         have h4 := hk b
         simp only at h4
         omega
       · have h3 := freeK_cnt l ps 44 s2 s' b own (names ++ f k (if l.isEmpty then b ++ own else b)) hl h
         have h4 := hk (if l.isEmpty then b ++ own else b)
         rw [List.length_append] at h3
         simp only at h4
         omega
theorem freeT_cnt : ∀ (r : Nat) (n : Nd) (s s' : StW) (b : List (List UInt8)), zJ r n s = some s' → (yA r n b).length + s.2 ≤ s'.2
 | 0, _, s, s', _, h => by simp [zJ] at h
 | r + 1, n, s, s', b, h => by
   have nil : n.op ≠ nameW → n.kids = [] → s'.2 = s.2 + 1 → (yA (r + 1) n b).length + s.2 ≤ s'.2 := fun hn hk hs => by
    simp only [yA, if_neg hn, hk, freeK]
    simp
    omega
   unfold zJ at h
   split at h
   · cases h
   · split at h
     · rename_i ho
       split at h
       · rename_i hb
         injection h with h
         exact nil (by rw [ho]; decide) (yG hb) (by rw [← h])
       · cases h
     · split at h
       · rename_i ho
         split at h
         · cases h
         · split at h
           · rename_i hb
             injection h with h
             exact nil (by rw [ho]; decide) (yG hb) (by rw [← h])
           · cases h
       · split at h
         · rename_i hn
           split at h
           · split at h
             · injection h with h
               subst h
               simp only [yA, if_pos hn]
               split
               · simp
               · simp; omega
             · cases h
           · cases h
         · rename_i hn
           unfold wordW at h
           split at h
           · cases h
           · rename_i p least hw
             have hp : yH n.op = p := by unfold yH; rw [hw]
             unfold wordP at h
             split at h
             · split at h
               · cases h
               · obtain ⟨s2, h2, h3⟩ := Option.bind_eq_some_iff.1 h
                 split at h3
                 · injection h3 with h3
                   subst h3
                   have := freeK_cnt (f := yA r) n.kids p 40 _ _ b [] [] (fun k _ s s' hk b => freeT_cnt r k s s' b hk) h2
                   simp only [yA, if_neg hn, hp]
                   simp only [List.length_nil] at this
                   omega
                 · cases h3
             · split at h
               · split at h
                 · cases h
                 · split at h
                   · rename_i hb
                     injection h with h
                     exact nil hn (yG hb) (by rw [← h])
                   · cases h
               · split at h
                 · split at h
                   · split at h
                     · rename_i hb
                       injection h with h
                       exact nil hn (yG hb) (by rw [← h])
                     · cases h
                   · cases h
                 · split at h
                   · rename_i hb
                     injection h with h
                     exact nil hn (yG hb) (by rw [← h])
                   · cases h
theorem free_few {n : Nd} (h : (showW n).isSome = true) (b : List (List UInt8)) : (yA 24 n b).length ≤ 4096 := by
 unfold showW at h
 split at h
 · cases h
 · rename_i s hs
   split at h
   · cases h
   · have h1 := freeT_cnt 24 n _ _ b hs
     have h2 := termW_cnt 24 n _ _ hs (by simp)
     simp only at h1
     omega
def freeL (n : Nd) : List (List UInt8) := Lib.compact ((yA 24 n []).mergeSort fun x y => decide (x ≤ y))
end Go.Proofs.YtaecndmncpfpfaaGreatDoor
set_option linter.unusedVariables false
set_option linter.unusedSimpArgs false
namespace Go.Proofs.YtaecndmncpfpfaaGreatDoor.L5
open Go.RowKit
theorem freeK_plain {f : Nd → List (List UInt8) → List (List UInt8)} : ∀ (l : List Nd) (ps : List UInt8) (b names : List (List UInt8)), l.length ≤ ps.length → (∀ p ∈ ps, p ≠ 110) → freeK f l ps b [] names = names ++ l.flatMap (f · b)
 | [], _, _, _, _, _ => by simp [freeK]
 | _ :: _, [], _, _, h, _ => by simp at h
 | k :: l, p :: ps, b, names, h, hp => by
   unfold freeK
   rw [if_neg (hp p (by simp)), freeK_plain l ps b _ (by simpa using h) (fun q hq => hp q (by simp [hq]))]
   have e : (if l.isEmpty = true then b ++ [] else b) = b := by split <;> simp
   rw [e]
   simp
theorem kidsR_ok {f : Nat → Except (Int × List Int) Ty} : ∀ (m i : Nat) (ts : List Ty), yC f m i = .ok ts → ∀ j, i ≤ j → j < i + m → ∃ t, f j = .ok t
 | 0, i, _, _, j, h1, h2 => by omega
 | m + 1, i, ts, e, j, h1, h2 => by
   unfold yC at e
   cases hf : f i with
   | error x => rw [hf] at e; cases e
   | ok t =>
     rw [hf] at e
     simp only at e
     rcases Nat.eq_or_lt_of_le h1 with rfl | h
     · exact ⟨t, hf⟩
     · cases h3 : yC f m (i + 1) with
       | error x => rw [h3] at e; cases e
       | ok us => exact kidsR_ok m (i + 1) us h3 j h (by omega)
theorem kidsR_err {f : Nat → Except (Int × List Int) Ty} {x : Int × List Int} : ∀ (m i : Nat), yC f m i = .error x → ∃ j, i ≤ j ∧ j < i + m ∧ f j = .error x
 | 0, i, e => by cases e
 | m + 1, i, e => by
   unfold yC at e
   cases hf : f i with
   | error y => rw [hf] at e; injection e with e; exact ⟨i, Nat.le_refl _, by omega, by rw [hf, e]⟩
   | ok t =>
     rw [hf] at e
     simp only at e
     cases h3 : yC f m (i + 1) with
     | error y =>
       rw [h3] at e
       injection e with e
       obtain ⟨j, h1, h2, h4⟩ := kidsR_err m (i + 1) (h3.trans (by rw [e]))
       exact ⟨j, by omega, by omega, h4⟩
     | ok us => rw [h3] at e; cases e
def NoN (res : Except (Int × List Int) Ty) (fr : List (List UInt8)) : Prop := (∀ t, res = .ok t → fr = []) ∧ (∀ q, res = .error (51, q) → fr ≠ [])
theorem lastN_nn {tx : List UInt8} {names : List (List UInt8 × Ty)} : lastN tx names = none ↔ tx ∉ names.map (·.1) := by
 unfold lastN
 rw [Option.map_eq_none_iff, List.find?_eq_none]
 constructor
 · intro h hm
   obtain ⟨x, hx, rfl⟩ := List.mem_map.1 hm
   exact h x (by simpa using hx) (by simp)
 · intro h x hx e
   exact h (List.mem_map.2 ⟨x, by simpa using hx, by simpa using e⟩)
theorem NoN.err {no : Int} {q : List Int} {fr : List (List UInt8)} (h : no ≠ 51) : NoN (.error (no, q)) fr := ⟨fun t e => (by cases e), fun q' e => by injection e with e; injection e with e1 e2; exact absurd e1 h⟩
theorem kidN_at {n : Nd} {ks : List Nd} {j : Nat} {k : Nd} (hk : n.kids = ks) (h : ks[j]? = some k) : kidN n j = k := by
 unfold kidN
 rw [hk, h]
 rfl
theorem list_three' {α : Type} {l : List α} (h : l.length = 3) : ∃ a b c, l = [a, b, c] := by
 match l, h with
 | [a, b, c], _ => exact ⟨a, b, c, rfl⟩
theorem step_free {it : Ty} {sides : List Ty} {names : List (List UInt8 × Ty)} {ps : List Int} {n : Nd} {fs : List (List Ty)} {F : List (List UInt8 × Ty) → List Int → Nat → Except (Int × List Int) Ty} {f : Nd → List (List UInt8) → List (List UInt8)}
    (hF : ∀ N P j, j < n.kids.length → NoN (F N P j) (f (kidN n j) (N.map (·.1))))
    (hbare : (n.op = [105, 116] ∨ n.op = sideW) → n.kids = []) (hlet : n.op = letW → n.kids.length = 3) (hmap : (n.op = [109, 97, 112] ∨ n.op = [102, 105, 108, 116, 101, 114]) → n.kids.length = 3) (hfold : n.op = [102, 111, 108, 100] → n.kids.length = 5)
    (hoth : n.op ≠ nameW → n.op ≠ letW → n.op ≠ [109, 97, 112] → n.op ≠ [102, 105, 108, 116, 101, 114] → n.op ≠ [102, 111, 108, 100] → n.kids.length ≤ (yH n.op).length ∧ ∀ p ∈ yH n.op, p ≠ 110) :
    NoN (stepT it sides names ps n.op n.int n.text n.kids.length fs (fun j => (kidN n j).text) F) (if n.op = nameW then (if n.text ∈ names.map (·.1) then [] else [n.text]) else freeK f n.kids (yH n.op) (names.map (·.1)) [] []) := by
 unfold stepT
 by_cases o1 : n.op = [105, 116]
 · rw [if_pos o1, if_neg (by rw [o1]; decide), hbare (.inl o1)]
   exact ⟨fun t _ => (by simp [freeK]), fun q e => (by cases e)⟩
 rw [if_neg o1]
 by_cases o2 : n.op = [115, 105, 100, 101]
 · rw [if_pos o2, if_neg (by rw [o2]; decide), hbare (.inr o2)]
   cases sides[n.int.toNat]? with
   | none => exact NoN.err (by decide)
   | some u => exact ⟨fun t _ => (by simp [freeK]), fun q e => (by cases e)⟩
 rw [if_neg o2]
 by_cases o3 : n.op = [110, 97, 109, 101]
 · rw [if_pos o3, if_pos (show n.op = nameW from o3)]
   by_cases hm : n.text ∈ names.map (·.1)
   · rw [if_pos hm]
     cases hl : lastN n.text names with
     | none => exact absurd hm (lastN_nn.1 hl)
     | some u => exact ⟨fun t _ => rfl, fun q e => by cases e⟩
   · rw [if_neg hm, lastN_nn.2 hm]
     exact ⟨fun t e => (by cases e), fun q _ => by simp⟩
 rw [if_neg o3, if_neg (show ¬ n.op = nameW from o3)]
 by_cases o4 : n.op = [108, 101, 116]
 · rw [if_pos o4]
   have h3 := hlet o4
   obtain ⟨k0, k1, k2, hk⟩ := list_three' h3
   have e0 : kidN n 0 = k0 := kidN_at hk rfl
   have e1 : kidN n 1 = k1 := kidN_at hk rfl
   have e2 : kidN n 2 = k2 := kidN_at hk rfl
   have hp : yH n.op = [110, 101, 101] := by rw [o4]; decide +kernel
   have hfr : freeK f n.kids (yH n.op) (names.map (·.1)) [] [] = f k1 (names.map (·.1)) ++ f k2 (names.map (·.1) ++ [k0.text]) := by
    rw [hk, hp]
    simp [freeK]
   rw [hfr]
   simp only [e0]
   obtain ⟨g1, g2⟩ := hF names (ps ++ [1]) 1 (by omega)
   rw [e1] at g1 g2
   unfold bindR
   cases h1 : F names (ps ++ [1]) 1 with
   | error x =>
     refine ⟨fun t e => (by cases e), fun q e => ?_⟩
     simp only at e
     have := g2 q (h1.trans (by rw [Except.error.inj e]))
     intro h
     exact this (List.append_eq_nil_iff.1 h).1
   | ok u =>
     obtain ⟨g3, g4⟩ := hF (names ++ [(k0.text, u)]) (ps ++ [(n.kids.length : Int) - 1]) 2 (by omega)
     rw [e2] at g3 g4
     have hmm : (names ++ [(k0.text, u)]).map (·.1) = names.map (·.1) ++ [k0.text] := by simp
     rw [hmm] at g3 g4
     have hn1 : n.kids.length - 1 = 2 := by omega
     simp only [hn1]
     refine ⟨fun t e => ?_, fun q e h => g4 q e (List.append_eq_nil_iff.1 h).2⟩
     rw [g1 u h1, g3 t e]
     rfl
 rw [if_neg o4]
 by_cases o5 : n.op = [109, 97, 112] ∨ n.op = [102, 105, 108, 116, 101, 114]
 · rw [if_pos o5]
   have h3 := hmap o5
   obtain ⟨k0, k1, k2, hk⟩ := list_three' h3
   have e0 : kidN n 0 = k0 := kidN_at hk rfl
   have e1 : kidN n 1 = k1 := kidN_at hk rfl
   have e2 : kidN n 2 = k2 := kidN_at hk rfl
   have hp : yH n.op = [101, 110, 101] := by rcases o5 with o5 | o5 <;> rw [o5] <;> decide +kernel
   have hfr : freeK f n.kids (yH n.op) (names.map (·.1)) [] [] = f k0 (names.map (·.1)) ++ f k2 (names.map (·.1) ++ [k1.text]) := by
    rw [hk, hp]
    simp [freeK]
   rw [hfr]
   simp only [e1]
   obtain ⟨g1, g2⟩ := hF names (ps ++ [0]) 0 (by omega)
   rw [e0] at g1 g2
   unfold eachR
   cases h1 : F names (ps ++ [0]) 0 with
   | error x =>
     refine ⟨fun t e => (by cases e), fun q e => ?_⟩
     simp only at e
     have := g2 q (h1.trans (by rw [Except.error.inj e]))
     intro h
     exact this (List.append_eq_nil_iff.1 h).1
   | ok u =>
     simp only
     by_cases hk7 : u.kind = 7
     · rw [if_pos hk7]
       obtain ⟨g3, g4⟩ := hF (names ++ [(k1.text, u.args.headD ty0)]) (ps ++ [(n.kids.length : Int) - 1]) 2 (by omega)
       rw [e2] at g3 g4
       have hmm : (names ++ [(k1.text, u.args.headD ty0)]).map (·.1) = names.map (·.1) ++ [k1.text] := by simp
       rw [hmm] at g3 g4
       have hn1 : n.kids.length - 1 = 2 := by omega
       simp only [hn1]
       cases h2 : F (names ++ [(k1.text, u.args.headD ty0)]) (ps ++ [(n.kids.length : Int) - 1]) 2 with
       | error x =>
         refine ⟨fun t e => (by cases e), fun q e h => ?_⟩
         have e' : x = (51, q) := by unfold eachE at e; exact Except.error.inj e
         exact g4 q (h2.trans (by rw [e'])) (List.append_eq_nil_iff.1 h).2
       | ok v =>
         refine ⟨fun t e => (by rw [g1 u h1, g3 v h2]; rfl), fun q e => ?_⟩
         unfold eachE at e
         simp only at e
         split at e
         · split at e
           · cases e
           · injection e with e; injection e with e _; cases e
         · split at e
           · cases e
           · injection e with e; injection e with e _; cases e
     · rw [if_neg hk7]
       exact NoN.err (by decide)
 rw [if_neg o5]
 by_cases o6 : n.op = [102, 111, 108, 100]
 · rw [if_pos o6]
   have h3 := hfold o6
   obtain ⟨k0, k1, k2, k3, k4, hk⟩ := list_five h3
   have e0 : kidN n 0 = k0 := kidN_at hk rfl
   have e1 : kidN n 1 = k1 := kidN_at hk rfl
   have e2 : kidN n 2 = k2 := kidN_at hk rfl
   have e3 : kidN n 3 = k3 := kidN_at hk rfl
   have e4 : kidN n 4 = k4 := kidN_at hk rfl
   have hp : yH n.op = [101, 101, 110, 110, 101] := by rw [o6]; decide +kernel
   have hfr : freeK f n.kids (yH n.op) (names.map (·.1)) [] [] = f k0 (names.map (·.1)) ++ f k1 (names.map (·.1)) ++ f k4 (names.map (·.1) ++ [k2.text, k3.text]) := by
    rw [hk, hp]
    simp [freeK]
   rw [hfr]
   simp only [e2, e3]
   have hj : ∀ j : Nat, j < 2 → (∀ t, F names (ps ++ [(j : Int)]) j = .ok t → f (kidN n j) (names.map (·.1)) = []) ∧ (∀ q, F names (ps ++ [(j : Int)]) j = .error (51, q) → f (kidN n j) (names.map (·.1)) ≠ []) := fun j hj => hF names _ j (by omega)
   unfold foldR
   cases h1 : yC (fun i => F names (ps ++ [(i : Int)]) i) 2 0 with
   | error x =>
     refine ⟨fun t e => (by cases e), fun q e h => ?_⟩
     have e' : x = (51, q) := Except.error.inj e
     subst e'
     obtain ⟨j, _, hj2, hj3⟩ := kidsR_err 2 0 h1
     have hne := (hj j (by omega)).2 q hj3
     have hh := (List.append_eq_nil_iff.1 h).1
     rcases j with _ | _ | j
     · rw [e0] at hne; exact hne (List.append_eq_nil_iff.1 hh).1
     · rw [e1] at hne; exact hne (List.append_eq_nil_iff.1 hh).2
     · omega
   | ok us =>
     obtain ⟨t0, ht0⟩ := kidsR_ok 2 0 us h1 0 (by omega) (by omega)
     obtain ⟨t1, ht1⟩ := kidsR_ok 2 0 us h1 1 (by omega) (by omega)
     have z0 := (hj 0 (by omega)).1 t0 ht0
     have z1 := (hj 1 (by omega)).1 t1 ht1
     rw [e0] at z0
     rw [e1] at z1
     rw [z0, z1]
     simp only
     by_cases hk7 : (us.headD ty0).kind = 7
     · rw [if_pos hk7]
       obtain ⟨g3, g4⟩ := hF (names ++ [(k2.text, us.getD 1 ty0), (k3.text, (us.headD ty0).args.headD ty0)]) (ps ++ [(n.kids.length : Int) - 1]) 4 (by omega)
       rw [e4] at g3 g4
       have hmm : (names ++ [(k2.text, us.getD 1 ty0), (k3.text, (us.headD ty0).args.headD ty0)]).map (·.1) = names.map (·.1) ++ [k2.text, k3.text] := by simp
       rw [hmm] at g3 g4
       have hn1 : n.kids.length - 1 = 4 := by omega
       simp only [hn1]
       cases h2 : F (names ++ [(k2.text, us.getD 1 ty0), (k3.text, (us.headD ty0).args.headD ty0)]) (ps ++ [(n.kids.length : Int) - 1]) 4 with
       | error x =>
         refine ⟨fun t e => (by cases e), fun q e h => ?_⟩
         have e' : x = (51, q) := by unfold foldE at e; exact Except.error.inj e
         exact g4 q (h2.trans (by rw [e'])) (List.append_eq_nil_iff.1 h).2
       | ok v =>
         refine ⟨fun t e => (by rw [g3 v h2]; rfl), fun q e => ?_⟩
         unfold foldE at e
         simp only at e
         split at e
         · cases e
         · injection e with e; injection e with e _; cases e
     · rw [if_neg hk7]
       exact NoN.err (by decide)
 rw [if_neg o6]
 obtain ⟨hl, hp⟩ := hoth o3 o4 (fun h => o5 (.inl h)) (fun h => o5 (.inr h)) o6
 rw [freeK_plain n.kids _ _ _ hl hp, List.nil_append]
 have hkid : ∀ k ∈ n.kids, ∃ j, j < n.kids.length ∧ kidN n j = k := fun k hk => by
  obtain ⟨j, hj⟩ := List.getElem?_of_mem hk
  exact ⟨j, (List.getElem?_eq_some_iff.1 hj).1, kidN_at rfl hj⟩
 cases h1 : yC (fun i => F names (ps ++ [(i : Int)]) i) n.kids.length 0 with
 | error x =>
   refine ⟨fun t e => (by cases e), fun q e h => ?_⟩
   have e' : x = (51, q) := Except.error.inj e
   subst e'
   obtain ⟨j, _, hj2, hj3⟩ := kidsR_err n.kids.length 0 h1
   have hj4 : j < n.kids.length := by omega
   refine (hF names _ j hj4).2 q hj3 ?_
   rw [List.flatMap_eq_nil_iff] at h
   exact h _ (List.mem_of_getElem? (kidN_get hj4))
 | ok us =>
   refine ⟨fun t _ => List.flatMap_eq_nil_iff.2 fun k hk => ?_, fun q e => ?_⟩
   · obtain ⟨j, hj, rfl⟩ := hkid k hk
     obtain ⟨t1, ht1⟩ := kidsR_ok n.kids.length 0 us h1 j (by omega) (by omega)
     exact (hF names _ j hj).1 t1 ht1
   · unfold comeR at e
     simp only at e
     cases hc : comeF us fs with
     | none => rw [hc] at e; injection e with e; injection e with e _; cases e
     | some u => rw [hc] at e; cases e
def FrOk : Nat → Nd → Prop
 | 0, _ => False
 | r + 1, n => ((n.op = [105, 116] ∨ n.op = sideW) → n.kids = []) ∧ (n.op = letW → n.kids.length = 3) ∧ ((n.op = [109, 97, 112] ∨ n.op = [102, 105, 108, 116, 101, 114]) → n.kids.length = 3) ∧ (n.op = [102, 111, 108, 100] → n.kids.length = 5) ∧
   (n.op ≠ nameW → n.op ≠ letW → n.op ≠ [109, 97, 112] → n.op ≠ [102, 105, 108, 116, 101, 114] → n.op ≠ [102, 111, 108, 100] → n.kids.length ≤ (yH n.op).length ∧ ∀ p ∈ yH n.op, p ≠ 110) ∧ ∀ k ∈ n.kids, FrOk r k
theorem infer_free (FT : Nd → List (List Ty)) (it : Ty) (sides : List Ty) : ∀ (r : Nat) (names : List (List UInt8 × Ty)) (ps : List Int) (n : Nd), FrOk r n → NoN (zM FT it sides r names ps n) (yA r n (names.map (·.1)))
 | 0, _, _, _, h => h.elim
 | r + 1, names, ps, n, ⟨h1, h2, h3, h4, h5, h6⟩ => by
   rw [inferT_step]
   unfold yA
   exact step_free (fun N P j hj => infer_free FT it sides r N P (kidN n j) (h6 _ (List.mem_of_getElem? (kidN_get hj)))) h1 h2 h3 h4 h5
theorem wdP_plain {s p : List UInt8} {m : Nat} (h : wdP s = some (p, m)) (h1 : s ≠ letW) (h2 : s ≠ [109, 97, 112]) (h3 : s ≠ [102, 105, 108, 116, 101, 114]) (h4 : s ≠ [102, 111, 108, 100]) : ∀ q ∈ p, q ≠ 110 := by
 unfold wdP at h
 split at h
 · injection h with h
   injection h with h _
   subst h
   intro q hq
   rw [(List.mem_replicate.1 hq).2]
   decide
 · cases hf : wdL.find? fun x => decide (x.1 = s) with
   | none => rw [hf] at h; cases h
   | some x =>
     rw [hf] at h
     have hx := List.mem_of_find?_eq_some hf
     have hs := List.find?_some hf
     have hs : x.1 = s := by simpa using hs
     subst hs
     have hp : x.2 = p := by injection h with h; injection h
     subst hp
     exact (show ∀ x ∈ wdL, x.1 ≠ letW → x.1 ≠ [109, 97, 112] → x.1 ≠ [102, 105, 108, 116, 101, 114] → x.1 ≠ [102, 111, 108, 100] → ∀ q ∈ x.2, q ≠ 110 by decide +kernel) x hx h1 h2 h3 h4
theorem fr_bare {r : Nat} {n : Nd} (hk : n.kids = []) (h2 : n.op ≠ letW) (h3 : n.op ≠ [109, 97, 112]) (h4 : n.op ≠ [102, 105, 108, 116, 101, 114]) (h5 : n.op ≠ [102, 111, 108, 100]) (h6 : n.op ≠ nameW → ∀ p ∈ yH n.op, p ≠ 110) : FrOk (r + 1) n :=
 ⟨fun _ => hk, fun h => absurd h h2, fun h => (h.elim (absurd · h3) (absurd · h4)), fun h => absurd h h5, fun h _ _ _ _ => ⟨by rw [hk]; exact Nat.zero_le _, h6 h⟩, fun k h => by rw [hk] at h; cases h⟩
theorem fr_ok : ∀ (r : Nat) (n : Nd) (s s' : StW), zJ r n s = some s' → FrOk r n
 | 0, _, _, _, h => by simp [zJ] at h
 | r + 1, n, s, s', h => by
   unfold zJ at h
   split at h
   · cases h
   split at h
   · rename_i ho
     split at h
     · rename_i hb
       exact fr_bare (yG hb) (by rw [ho]; decide) (by rw [ho]; decide) (by rw [ho]; decide) (by rw [ho]; decide) (fun _ => by rw [ho]; decide +kernel)
     · cases h
   split at h
   · rename_i ho
     split at h
     · cases h
     split at h
     · rename_i hb
       exact fr_bare (yG hb) (by rw [ho]; decide) (by rw [ho]; decide) (by rw [ho]; decide) (by rw [ho]; decide) (fun _ => by rw [ho]; decide +kernel)
     · cases h
   split at h
   · rename_i ho
     split at h
     · split at h
       · rename_i hb
         exact fr_bare (yG hb) (by rw [ho]; decide) (by rw [ho]; decide) (by rw [ho]; decide) (by rw [ho]; decide) (fun _ => by rw [ho]; decide +kernel)
       · cases h
     · cases h
   obtain ⟨p, least, hw, hp, he, hne⟩ := wordW_out h
   have hpn : yH n.op = p := by unfold yH; rw [hw]
   have fix : ∀ (op q : List UInt8) (m : Nat), wdP op = some (q, m) → n.op = op → p = q ∧ least = m := fun op q m hq ho => by
    rw [ho, hq] at hw
    injection hw with hw
    injection hw with h1 h2
    exact ⟨h1.symm, h2.symm⟩
   have len : ∀ (op q : List UInt8) (m : Nat), wdP op = some (q, m) → n.op = op → hasB q 101 = true → q.length = m → n.kids.length = m := fun op q m hq ho hb hl => by
    obtain ⟨rfl, rfl⟩ := fix op q m hq ho
    have := he hb
    omega
   have none' : ∀ (op q : List UInt8) (m : Nat), wdP op = some (q, m) → n.op = op → hasB q 101 = false → n.kids = [] := fun op q m hq ho hb => by
    obtain ⟨rfl, rfl⟩ := fix op q m hq ho
    exact (hne hb).1
   refine ⟨fun ho => ?_, fun ho => len _ [110, 101, 101] 3 (by decide) ho (by decide) rfl, fun ho => ?_, fun ho => len _ [101, 101, 110, 110, 101] 5 (by decide) ho (by decide) rfl, fun _ h1 h2 h3 h4 => ⟨?_, by rw [hpn]; exact wdP_plain hw h1 h2 h3 h4⟩, fun k hk => ?_⟩
   · rcases ho with ho | ho
     · exact none' _ [] 0 (by decide) ho (by decide)
     · exact none' _ [100] 1 (by decide) ho (by decide)
   · rcases ho with ho | ho
     · exact len _ [101, 110, 101] 3 (by decide) ho (by decide) rfl
     · exact len _ [101, 110, 101] 3 (by decide) ho (by decide) rfl
   · rw [hpn]
     cases hb : hasB p 101 with
     | true => exact (he hb).2.1
     | false => rw [(hne hb).1]; exact Nat.zero_le _
   · cases hb : hasB p 101 with
     | true =>
       obtain ⟨s1, s2, hs⟩ := (he hb).2.2 k hk
       exact fr_ok r k s1 s2 hs
     | false => rw [(hne hb).1] at hk; cases hk
theorem show_fr {n : Nd} (h : (showW n).isSome = true) : FrOk 24 n := by
 unfold showW at h
 cases ht : zJ 24 n ([], 0) with
 | none => rw [ht] at h; cases h
 | some s => exact fr_ok 24 n _ s ht
