import Derived.Test.YtaecndmncpfpfaaGreatDoorFc
import Derived.KernelRfl
import Derived.Test.YtaecndmncpfpfaaGreatDoorEn
set_option linter.unusedVariables false
set_option linter.unusedSimpArgs false
namespace Go.Proofs.YtaecndmncpfpfaaGreatDoor.L5
open Go.RowKit
def wW : List UInt8 := [119]
def sideW : List UInt8 := [115, 105, 100, 101]
def letW : List UInt8 := [108, 101, 116]
def swapT (s : Nat) : Nat → Nd → Nd
 | 0, n => n
 | r + 1, n => if n.op = sideW ∧ n.int = (s : Int) then .mk nameW 0 wW ty0 [] else .mk n.op n.int n.text n.ty (n.kids.map (swapT s r))
def holdsT : Nat → Nd → Bool
 | 0, _ => false
 | r + 1, n => n.kids.any (holdsT r) || (n.op == nameW && n.text == wW)
def NmOk : Nat → Nd → Prop
 | 0, _ => False
 | r + 1, n => (n.op = letW → (kidN n 0).op = nameW) ∧ ((n.op = [109, 97, 112] ∨ n.op = [102, 105, 108, 116, 101, 114]) → (kidN n 1).op = nameW) ∧ (n.op = [102, 111, 108, 100] → (kidN n 2).op = nameW ∧ (kidN n 3).op = nameW) ∧
   (n.op = sideW → n.kids = [] ∧ 0 ≤ n.int) ∧ ∀ k ∈ n.kids, NmOk r k
theorem kidsW_name {f : Nd → StW → Option StW} : ∀ (l : List Nd) (p : List UInt8) (m : UInt8) (s s' : StW), kidsW f l p m s = some s' → ∀ (j : Nat) (k : Nd), l[j]? = some k → p[j]? = some 110 → k.op = nameW
 | [], _, _, _, _, _, j, k, hk, _ => by simp at hk
 | _ :: _, [], _, _, _, h, _, _, _, _ => by simp [kidsW] at h
 | n :: l, p :: ps, m, s, s', h, j, k, hk, hp => by
   unfold kidsW at h
   split at h
   · cases h
   · rename_i hn
     cases hf : f n (s.1 ++ [m], s.2) with
     | none => rw [hf] at h; cases h
     | some s1 =>
       rw [hf] at h
       cases j with
       | zero =>
         injection hk with hk
         injection hp with hp
         subst hk
         exact Decidable.byContradiction fun e => hn ⟨hp, e⟩
       | succ j => exact kidsW_name l ps 44 s1 s' h j k hk hp
theorem nm_bare {r : Nat} {n : Nd} (hk : n.kids = []) (h1 : n.op ≠ sideW) (h2 : n.op ≠ letW) (h3 : n.op ≠ [109, 97, 112]) (h4 : n.op ≠ [102, 105, 108, 116, 101, 114]) (h5 : n.op ≠ [102, 111, 108, 100]) : NmOk (r + 1) n :=
 ⟨fun h => absurd h h2, fun h => (h.elim (absurd · h3) (absurd · h4)), fun h => absurd h h5, fun h => absurd h h1, fun k h => by rw [hk] at h; cases h⟩
theorem wordW_names {f : Nd → StW → Option StW} {n : Nd} {s s' : StW} (h : wordW f n s = some s') : ∃ p least, wdP n.op = some (p, least) ∧ (hasB p 101 = true → ∀ (j : Nat) (k : Nd), n.kids[j]? = some k → p[j]? = some 110 → k.op = nameW) := by
 unfold wordW at h
 cases hw : wdP n.op with
 | none => rw [hw] at h; cases h
 | some x =>
   obtain ⟨p, least⟩ := x
   rw [hw] at h
   simp only at h
   refine ⟨p, least, rfl, fun he => ?_⟩
   unfold wordP at h
   rw [if_pos he] at h
   split at h
   · cases h
   · cases hk : kidsW f n.kids p 40 (s.1 ++ n.op, s.2) with
     | none => rw [hk] at h; cases h
     | some s1 => exact kidsW_name _ _ _ _ _ hk
theorem nm_ok : ∀ (r : Nat) (n : Nd) (s s' : StW), termW r n s = some s' → NmOk r n
 | 0, _, _, _, h => by simp [termW] at h
 | r + 1, n, s, s', h => by
   unfold termW at h
   split at h
   · cases h
   split at h
   · rename_i ho
     split at h
     · rename_i hb
       exact nm_bare (bare_kids hb) (by rw [ho]; decide) (by rw [ho]; decide) (by rw [ho]; decide) (by rw [ho]; decide) (by rw [ho]; decide)
     · cases h
   split at h
   · rename_i ho
     split at h
     · cases h
     split at h
     · rename_i hb
       exact nm_bare (bare_kids hb) (by rw [ho]; decide) (by rw [ho]; decide) (by rw [ho]; decide) (by rw [ho]; decide) (by rw [ho]; decide)
     · cases h
   split at h
   · rename_i ho
     split at h
     · split at h
       · rename_i hb
         exact nm_bare (bare_kids hb) (by rw [ho]; decide) (by rw [ho]; decide) (by rw [ho]; decide) (by rw [ho]; decide) (by rw [ho]; decide)
       · cases h
     · cases h
   obtain ⟨p, least, hw, hp, he, hne⟩ := wordW_out h
   obtain ⟨p', least', hw', hnm⟩ := wordW_names h
   obtain ⟨rfl, rfl⟩ : p' = p ∧ least' = least := by rw [hw] at hw'; injection hw' with e; injection e with e1 e2; exact ⟨e1.symm, e2.symm⟩
   have fix : ∀ (op q : List UInt8) (m : Nat), wdP op = some (q, m) → n.op = op → p' = q ∧ least' = m := fun op q m hq ho => by
    rw [ho, hq] at hw
    injection hw with hw
    injection hw with h1 h2
    exact ⟨h1.symm, h2.symm⟩
   have nam : ∀ (op q : List UInt8) (m j : Nat), wdP op = some (q, m) → n.op = op → hasB q 101 = true → j < m → q[j]? = some 110 → (kidN n j).op = nameW := fun op q m j hq ho hb hj hp => by
    obtain ⟨rfl, rfl⟩ := fix op q m hq ho
    have hlen := (he hb).1
    have hk : n.kids[j]? = some (n.kids[j]'(by omega)) := List.getElem?_eq_getElem (by omega)
    have := hnm hb j _ hk hp
    unfold kidN
    rw [hk]
    exact this
   refine ⟨fun ho => nam _ [110, 101, 101] 3 0 (by decide) ho (by decide) (by decide) rfl, fun ho => ?_, fun ho => ⟨nam _ [101, 101, 110, 110, 101] 5 2 (by decide) ho (by decide) (by decide) rfl, nam _ [101, 101, 110, 110, 101] 5 3 (by decide) ho (by decide) (by decide) rfl⟩, fun ho => ?_, fun k hk => ?_⟩
   · rcases ho with ho | ho
     · exact nam _ [101, 110, 101] 3 1 (by decide) ho (by decide) (by decide) rfl
     · exact nam _ [101, 110, 101] 3 1 (by decide) ho (by decide) (by decide) rfl
   · obtain ⟨rfl, rfl⟩ := fix _ [100] 1 (by decide) ho
     exact ⟨(hne (by decide)).1, (hne (by decide)).2.1 (by decide)⟩
   · cases hb : hasB p' 101 with
     | true =>
       obtain ⟨s1, s2, h12⟩ := (he hb).2.2 k hk
       exact nm_ok r k s1 s2 h12
     | false => rw [(hne hb).1] at hk; cases hk
theorem show_nm {n : Nd} (h : (showW n).isSome = true) : NmOk 24 n := by
 unfold showW at h
 cases ht : termW 24 n ([], 0) with
 | none => rw [ht] at h; cases h
 | some s => exact nm_ok 24 n _ s ht
theorem kidN_map (f : Nd → Nd) (o t : List UInt8) (i : Int) (ty : Ty) (l : List Nd) {j : Nat} (hj : j < l.length) (n : Nd) (hn : n.kids = l) : kidN (.mk o i t ty (l.map f)) j = f (kidN n j) := by
 unfold kidN
 rw [hn]
 show ((l.map f)[j]?).getD nd0 = f ((l[j]?).getD nd0)
 rw [List.getElem?_map, List.getElem?_eq_getElem hj]
 rfl
theorem swap_text {s q : Nat} {n : Nd} (h : n.op = nameW) : (swapT s q n).text = n.text := by
 cases q with
 | zero => rfl
 | succ q =>
   unfold swapT
   rw [if_neg (by rw [h]; intro e; exact absurd e.1 (by decide))]
   rfl
theorem lastN_w (t : Ty) (names : List (List UInt8 × Ty)) (h : ∀ x ∈ names, x.1 ≠ wW) : lastN wW ((wW, t) :: names) = some t := by
 unfold lastN
 rw [List.reverse_cons, List.find?_append]
 have : (names.reverse.find? fun (x : List UInt8 × Ty) => x.1 == wW) = none := List.find?_eq_none.2 fun x hx => by simpa using h x (List.mem_reverse.1 hx)
 rw [this]
 rfl
theorem lastN_other {c : List UInt8} (t : Ty) (names : List (List UInt8 × Ty)) (h : c ≠ wW) : lastN c ((wW, t) :: names) = lastN c names := by
 unfold lastN
 rw [List.reverse_cons, List.find?_append]
 cases hf : (names.reverse.find? fun (x : List UInt8 × Ty) => x.1 == c) with
 | some x => rfl
 | none =>
   have : ([(wW, t)] : List (List UInt8 × Ty)).find? (fun (x : List UInt8 × Ty) => x.1 == c) = none := by
    rw [List.find?_eq_none]
    intro x hx
    obtain rfl := List.mem_singleton.1 hx
    simpa using fun e => h (Eq.symm e)
   rw [this]
   rfl
theorem holds_kid {q : Nat} {n : Nd} (h : holdsT (q + 1) n = false) {j : Nat} (hj : j < n.kids.length) : holdsT q (kidN n j) = false := by
 unfold holdsT at h
 have h1 := (Bool.or_eq_false_iff.1 h).1
 have hk : n.kids[j]? = some n.kids[j] := List.getElem?_eq_getElem hj
 unfold kidN
 rw [hk]
 exact List.any_eq_false.1 h1 _ (List.mem_of_getElem? hk) |> fun e => by simpa using e
theorem holds_self {q : Nat} {n : Nd} (h : holdsT (q + 1) n = false) (ho : n.op = nameW) : n.text ≠ wW := by
 unfold holdsT at h
 have h2 := (Bool.or_eq_false_iff.1 h).2
 intro e
 rw [ho, e] at h2
 exact absurd h2 (by decide)
theorem forms_same (n : Nd) (l : List Nd) (hl : l.length = n.kids.length) : formsT (.mk n.op n.int n.text n.ty l) = formsT n := by
 cases n
 unfold formsT
 simp only [Nd.op, Nd.ty, Nd.kids, Nd.int, Nd.text] at hl ⊢
 rw [hl]
 rfl
theorem kidsR_congr {f f' : Nat → Except (Int × List Int) Ty} : ∀ (m i : Nat), (∀ j, i ≤ j → j < i + m → f' j = f j) → kidsR f' m i = kidsR f m i
 | 0, _, _ => rfl
 | m + 1, i, h => by
   unfold kidsR
   rw [h i (Nat.le_refl _) (by omega), kidsR_congr m (i + 1) (fun j h1 h2 => h j (by omega) (by omega))]
def stepT (it : Ty) (sides : List Ty) (names : List (List UInt8 × Ty)) (ps : List Int) (op : List UInt8) (i : Int) (tx : List UInt8) (len : Nat) (fs : List (List Ty)) (kt : Nat → List UInt8) (F : List (List UInt8 × Ty) → List Int → Nat → Except (Int × List Int) Ty) : Except (Int × List Int) Ty :=
 if op = [105, 116] then .ok it
 else if op = [115, 105, 100, 101] then optR 53 ps sides[i.toNat]?
 else if op = [110, 97, 109, 101] then optR 51 ps (lastN tx names)
 else if op = [108, 101, 116] then bindR (F names (ps ++ [1]) 1) fun t => F (names ++ [(kt 0, t)]) (ps ++ [(len : Int) - 1]) (len - 1)
 else if op = [109, 97, 112] ∨ op = [102, 105, 108, 116, 101, 114] then eachR (op == [109, 97, 112]) ps (F names (ps ++ [0]) 0) fun a => F (names ++ [(kt 1, a)]) (ps ++ [(len : Int) - 1]) (len - 1)
 else if op = [102, 111, 108, 100] then foldR ps (kidsR (fun i => F names (ps ++ [(i : Int)]) i) 2 0) fun d a => F (names ++ [(kt 2, d), (kt 3, a)]) (ps ++ [(len : Int) - 1]) (len - 1)
 else comeR ps fs (kidsR (fun i => F names (ps ++ [(i : Int)]) i) len 0)
theorem inferT_step (FT : Nd → List (List Ty)) (it : Ty) (sides : List Ty) (r : Nat) (names : List (List UInt8 × Ty)) (ps : List Int) (n : Nd) :
    inferT FT it sides (r + 1) names ps n = stepT it sides names ps n.op n.int n.text n.kids.length (FT n) (fun j => (kidN n j).text) (fun N P j => inferT FT it sides r N P (kidN n j)) := rfl
theorem step_swap {it : Ty} {sides : List Ty} {t : Ty} {names : List (List UInt8 × Ty)} {ps : List Int} {op : List UInt8} {i : Int} {tx : List UInt8} {len : Nat} {fs : List (List Ty)} {kt kt' : Nat → List UInt8} {F F' : List (List UInt8 × Ty) → List Int → Nat → Except (Int × List Int) Ty}
    (hnm : ∀ x ∈ names, x.1 ≠ wW) (hside : op = sideW → i ≠ (sides.length : Int) ∧ 0 ≤ i) (hname : op = nameW → tx ≠ wW) (hlet : op = [108, 101, 116] → len = 3 ∧ kt' 0 = kt 0 ∧ kt 0 ≠ wW) (hmap : (op = [109, 97, 112] ∨ op = [102, 105, 108, 116, 101, 114]) → len = 3 ∧ kt' 1 = kt 1 ∧ kt 1 ≠ wW)
    (hfold : op = [102, 111, 108, 100] → len = 5 ∧ kt' 2 = kt 2 ∧ kt 2 ≠ wW ∧ kt' 3 = kt 3 ∧ kt 3 ≠ wW) (hF : ∀ N P j, j < len → (∀ x ∈ N, x.1 ≠ wW) → F' ((wW, t) :: N) P j = F N P j) :
    stepT it sides ((wW, t) :: names) ps op i tx len fs kt' F' = stepT it (sides ++ [t]) names ps op i tx len fs kt F := by
 have hmore : ∀ (c : List UInt8) (u : Ty), c ≠ wW → ∀ x ∈ names ++ [(c, u)], x.1 ≠ wW := fun c u hc x hx => by
  rcases List.mem_append.1 hx with hx | hx
  · exact hnm x hx
  · obtain rfl := List.mem_singleton.1 hx; exact hc
 unfold stepT
 by_cases o1 : op = [105, 116]
 · rw [if_pos o1, if_pos o1]
 rw [if_neg o1, if_neg o1]
 by_cases o2 : op = [115, 105, 100, 101]
 · rw [if_pos o2, if_pos o2]
   obtain ⟨h1, h2⟩ := hside o2
   have hne : i.toNat ≠ sides.length := fun h => h1 (by omega)
   rcases Nat.lt_or_ge i.toNat sides.length with h | h
   · rw [List.getElem?_append_left h]
   · rw [List.getElem?_eq_none h, List.getElem?_eq_none (by simp; omega)]
 rw [if_neg o2, if_neg o2]
 by_cases o3 : op = [110, 97, 109, 101]
 · rw [if_pos o3, if_pos o3, lastN_other t names (hname o3)]
 rw [if_neg o3, if_neg o3]
 by_cases o4 : op = [108, 101, 116]
 · rw [if_pos o4, if_pos o4]
   obtain ⟨h3, hk, hc⟩ := hlet o4
   rw [hF names _ 1 (by omega) hnm, hk]
   congr 1
   funext u
   exact hF (names ++ [(kt 0, u)]) _ (len - 1) (by omega) (hmore _ u hc)
 rw [if_neg o4, if_neg o4]
 by_cases o5 : op = [109, 97, 112] ∨ op = [102, 105, 108, 116, 101, 114]
 · rw [if_pos o5, if_pos o5]
   obtain ⟨h3, hk, hc⟩ := hmap o5
   rw [hF names _ 0 (by omega) hnm, hk]
   congr 1
   funext u
   exact hF (names ++ [(kt 1, u)]) _ (len - 1) (by omega) (hmore _ u hc)
 rw [if_neg o5, if_neg o5]
 by_cases o6 : op = [102, 111, 108, 100]
 · rw [if_pos o6, if_pos o6]
   obtain ⟨h3, hk2, hc2, hk3, hc3⟩ := hfold o6
   rw [kidsR_congr 2 0 (f := fun i => F names (ps ++ [(i : Int)]) i) (fun j h1 h2 => hF names _ j (by omega) hnm), hk2, hk3]
   congr 1
   funext u v
   refine hF (names ++ [(kt 2, u), (kt 3, v)]) _ (len - 1) (by omega) fun x hx => ?_
   rcases List.mem_append.1 hx with hx | hx
   · exact hnm x hx
   · rcases List.mem_cons.1 hx with rfl | hx
     · exact hc2
     · obtain rfl := List.mem_singleton.1 hx; exact hc3
 rw [if_neg o6, if_neg o6, kidsR_congr len 0 (f := fun i => F names (ps ++ [(i : Int)]) i) (fun j h1 h2 => hF names _ j (by omega) hnm)]
theorem swap_infer (it : Ty) (sides : List Ty) (t : Ty) : ∀ (r R q : Nat) (names : List (List UInt8 × Ty)) (ps : List Int) (n : Nd), NmOk R n → InfOk FOk R n → r ≤ R → R < q → (∀ x ∈ names, x.1 ≠ wW) → holdsT q n = false →
    inferT formsT it sides r ((wW, t) :: names) ps (swapT sides.length q n) = inferT formsT it (sides ++ [t]) r names ps n
 | 0, _, _, _, _, _, _, _, _, _, _, _ => rfl
 | r + 1, 0, _, _, _, _, _, _, h, _, _, _ => by omega
 | r + 1, R + 1, 0, _, _, _, _, _, _, h, _, _ => by omega
 | r + 1, R + 1, q + 1, names, ps, n, ⟨nlet, nmap, nfold, nside, nk⟩, ⟨h64, hsd, hlet, hmap, hfold, hfo, hk⟩, hr, hR, hnm, hh => by
   have IH := fun (names : List (List UInt8 × Ty)) (ps : List Int) (i : Nat) (hi : i < n.kids.length) (hnm : ∀ x ∈ names, x.1 ≠ wW) => swap_infer it sides t r R q names ps (kidN n i) (nk _ (List.mem_of_getElem? (kidN_get hi))) (hk i _ (kidN_get hi)) (by omega) (by omega) hnm (holds_kid hh hi)
   have hkt : ∀ j, j < n.kids.length → (kidN n j).op = nameW → (kidN n j).text ≠ wW := fun j hj ho => by
    cases q with
    | zero => omega
    | succ q => exact holds_self (holds_kid hh hj) ho
   by_cases hs : n.op = sideW ∧ n.int = (sides.length : Int)
   · have e : swapT sides.length (q + 1) n = .mk nameW 0 wW ty0 [] := by rw [swapT, if_pos hs]
     rw [e, inferT_step, inferT_step]
     have h1 : n.op = [115, 105, 100, 101] := hs.1
     unfold stepT
     rw [if_neg (show ¬ (Nd.mk nameW 0 wW ty0 []).op = [105, 116] by decide), if_neg (show ¬ (Nd.mk nameW 0 wW ty0 []).op = [115, 105, 100, 101] by decide), if_pos (show (Nd.mk nameW 0 wW ty0 []).op = [110, 97, 109, 101] from rfl), if_neg (show ¬ n.op = [105, 116] by rw [h1]; decide), if_pos h1]
     show optR 51 ps (lastN wW ((wW, t) :: names)) = _
     rw [lastN_w t names hnm, hs.2]
     simp [optR]
   · have e : swapT sides.length (q + 1) n = .mk n.op n.int n.text n.ty (n.kids.map (swapT sides.length q)) := by
       rw [swapT, if_neg hs]
     have hkid : ∀ j, j < n.kids.length → kidN (.mk n.op n.int n.text n.ty (n.kids.map (swapT sides.length q))) j = swapT sides.length q (kidN n j) := fun j hj => kidN_map _ _ _ _ _ _ hj n rfl
     have hlen : (Nd.mk n.op n.int n.text n.ty (n.kids.map (swapT sides.length q))).kids.length = n.kids.length := by show (n.kids.map _).length = _; simp
     have hst : ∀ j, j < n.kids.length → (kidN n j).op = nameW → (kidN (.mk n.op n.int n.text n.ty (n.kids.map (swapT sides.length q))) j).text = (kidN n j).text := fun j hj ho => by rw [hkid j hj, swap_text ho]
     rw [e, inferT_step, inferT_step, hlen, forms_same n _ (by simp)]
     show stepT it sides ((wW, t) :: names) ps n.op n.int n.text n.kids.length (formsT n) _ _ = _
     refine step_swap hnm (fun ho => ⟨fun h => hs ⟨ho, h⟩, (nside ho).2⟩) (fun ho => holds_self hh ho) (fun ho => ?_) (fun ho => ?_) (fun ho => ?_) fun N P j hj hN => ?_
     · have h3 := hlet ho
       exact ⟨h3, hst 0 (by omega) (nlet ho), hkt 0 (by omega) (nlet ho)⟩
     · have h3 := hmap ho
       exact ⟨h3, hst 1 (by omega) (nmap ho), hkt 1 (by omega) (nmap ho)⟩
     · have h3 := hfold ho
       exact ⟨h3, hst 2 (by omega) (nfold ho).1, hkt 2 (by omega) (nfold ho).1, hst 3 (by omega) (nfold ho).2, hkt 3 (by omega) (nfold ho).2⟩
     · show inferT _ _ _ _ _ _ (kidN _ j) = _
       rw [hkid j hj]
       exact IH N P j hj hN
theorem swap_inf (s : Nat) : ∀ (r R q : Nat) (n : Nd), InfOk FOk r (swapT s q n) → InfOk FOk R n → NmOk R n → InfOk FOk r n
 | 0, _, _, _, h, _, _ => h.elim
 | r + 1, 0, _, _, _, h, _ => h.elim
 | r + 1, R + 1, 0, n, h, _, _ => h
 | r + 1, R + 1, q + 1, n, h, ⟨h64, hsd, hlet, hmap, hfold, hfo, hk⟩, ⟨_, _, _, nside, nk⟩ => by
   refine ⟨h64, hsd, hlet, hmap, hfold, hfo, fun i k hi => ?_⟩
   by_cases hs : n.op = sideW ∧ n.int = (s : Int)
   · rw [(nside hs.1).1] at hi
     simp at hi
   · rw [swapT, if_neg hs] at h
     refine swap_inf s r R q k (h.2.2.2.2.2.2 i _ ?_) (hk i k hi) (nk k (List.mem_of_getElem? hi))
     show (n.kids.map (swapT s q))[i]? = _
     rw [List.getElem?_map, hi]
     rfl
def ndLet (d n : Nd) : Nd := .mk letW 0 [] ty0 [.mk nameW 0 wW ty0 [], d, n]
theorem res_let {it : Ty} {sides : List Ty} {d n : Nd} {t : Ty} {q : Nat} (hq : 24 < q) (hd : resI it sides d = .ok t) (hl : (showW (ndLet d (swapT sides.length q n))).isSome = true) (hn : (showW n).isSome = true) (hh : holdsT q n = false) :
    resI it sides (ndLet d (swapT sides.length q n)) = mapP [2] (resI it (sides ++ [t]) n) := by
 have h0 := show_inf hl
 have hok := h0.2.2.2.2.2.2
 have hid : InfOk FOk 23 d := hok 1 d rfl
 have his : InfOk FOk 23 (swapT sides.length q n) := hok 2 _ rfl
 have hin : InfOk FOk 23 n := swap_inf sides.length 23 24 q n his (show_inf hn) (show_nm hn)
 have e : resI it sides (ndLet d (swapT sides.length q n)) = bindR (inferT formsT it sides 23 [] [1] d) fun u => inferT formsT it sides 23 [(wW, u)] [2] (swapT sides.length q n) := by
  unfold resI
  rw [show (24 : Nat) = 23 + 1 from rfl, inferT_step]
  unfold stepT
  rw [if_neg (show ¬ (ndLet d (swapT sides.length q n)).op = [105, 116] by show ¬ letW = _; decide), if_neg (show ¬ (ndLet d (swapT sides.length q n)).op = [115, 105, 100, 101] by show ¬ letW = _; decide), if_neg (show ¬ (ndLet d (swapT sides.length q n)).op = [110, 97, 109, 101] by show ¬ letW = _; decide), if_pos (show (ndLet d (swapT sides.length q n)).op = [108, 101, 116] from rfl)]
  rfl
 rw [e, infer_kid 1 hid, hd]
 show inferT formsT it sides 23 [(wW, t)] [2] (swapT sides.length q n) = _
 rw [swap_infer it sides t 23 24 q [] [2] n (show_nm hn) (show_inf hn) (by omega) hq (by simp) hh, infer_kid 2 hin]
end Go.Proofs.YtaecndmncpfpfaaGreatDoor.L5
set_option linter.unusedVariables false
set_option linter.unusedSimpArgs false
namespace Go.Proofs.YtaecndmncpfpfaaGreatDoor.L5
open Go.RowKit
theorem holds_take {q : Nat} {l : List Nd} {j : Nat} {a : Nd} (ha : l[j]? = some a) (h : (l.take j).any (holdsT q) = false) : (l.take (j + 1)).any (holdsT q) = holdsT q a := by
 obtain ⟨hj, rfl⟩ := List.getElem?_eq_some_iff.1 ha
 rw [List.take_succ_eq_append_getElem hj, List.any_append, h]
 simp
set_option maxRecDepth 100000 in
set_option maxHeartbeats 2000000 in
theorem holds_any : ∀ (q d : Nat) (S : Nat → Prop) (v : Value) (t : Nd) (w : World), NarN q t → NdAt w S d v t →
    Calls Tryz.prog 28 #[v] w fun e w' => e = .returned (.bool (holdsT q t)) ∧ Below w.heap.size w w'
 | 0, d, S, v, t, w, hN, _ => hN.elim
 | q + 1, 0, S, v, t, w, _, hT => hT.elim
 | q + 1, d + 1, S, v, t, w, hN, hT => by
   obtain ⟨hnar, hlen, hall⟩ := hN
   have IH := holds_any q d
   have HIH := Lib.hid IH
   have HALL := Lib.hid hall
   obtain ⟨A, c, K, kc, rfl, _, hlc, hA⟩ := hT
   have HA := Lib.hid hA
   have hb0 : (w.alloc (.cells #[.string ⟨t.op.toArray⟩, .int .i64 t.int, .string ⟨t.text.toArray⟩, .int .i64 t.ty.kind, .slice A t.ty.args.length c, .slice K t.kids.length kc] 27)).heap[w.heap.size]? = some (.cells #[.string ⟨t.op.toArray⟩, .int .i64 t.int, .string ⟨t.text.toArray⟩, .int .i64 t.ty.kind, .slice A t.ty.args.length c, .slice K t.kids.length kc] 27 (0, 0)) := heap_alloc_new w _
   have HB0 := Lib.hid hb0
   clear hA IH hall hnar hb0
   go_enter Tryz.func28, Tryz.ntmps28
   go_wp2_with (fail)
   go_loopw [8] (fun i wr => ∃ j : Nat, i = .int .i64 j ∧ j ≤ t.kids.length ∧ Hid ((t.kids.take j).any (holdsT q) = false) ∧ Hid (wr.heap[w.heap.size]? = some (.cells #[.string ⟨t.op.toArray⟩, .int .i64 t.int, .string ⟨t.text.toArray⟩, .int .i64 t.ty.kind, .slice A t.ty.args.length c, .slice K t.kids.length kc] 27 (0, 0))) ∧ Hid (Below w.heap.size w wr)) (fun i _ => 6000 - (intOf i).toNat)
   case atStart => exact ⟨0, rfl, Nat.zero_le _, Lib.hid rfl, HB0, Lib.hid ((Below.refl _ w).alloc (Nat.le_refl _) _)⟩
   case round =>
    obtain ⟨j, rfl, hj, HH, HBX, HB⟩ := hrel
    have hsr := HB.out.size
    by_cases hlt : j < t.kids.length
    · obtain ⟨b, o, rfl, hSb, hcells⟩ := HA.out (by omega)
      obtain ⟨a, ha⟩ : ∃ a, t.kids[j]? = some a := ⟨_, List.getElem?_eq_getElem hlt⟩
      obtain ⟨A', c', K', k', h0, h1, h2, h3, h4, h5, h6, hbl⟩ := kid_cells hcells ha
      have g0 := (HB.out.cell (p := ⟨b, o + j * 6, none⟩) hbl).trans h0
      have g1 := (HB.out.cell (p := ⟨b, o + j * 6 + 1, none⟩) hbl).trans h1
      have g2 := (HB.out.cell (p := ⟨b, o + j * 6 + 2, none⟩) hbl).trans h2
      have g3 := (HB.out.cell (p := ⟨b, o + j * 6 + 3, none⟩) hbl).trans h3
      have g4 := (HB.out.cell (p := ⟨b, o + j * 6 + 4, none⟩) hbl).trans h4
      have g5 := (HB.out.cell (p := ⟨b, o + j * 6 + 5, none⟩) hbl).trans h5
      have hbr : b < wr.heap.size := by omega
      have HT := Lib.hid (holds_take (q := q) ha HH.out)
      have H2 := Lib.hid ((h6.below HB.out).below ((Below.refl wr.heap.size wr).alloc (Nat.le_refl _) (.cells #[.string ⟨a.op.toArray⟩, .int .i64 a.int, .string ⟨a.text.toArray⟩, .int .i64 a.ty.kind, .slice A' a.ty.args.length c', .slice K' a.kids.length k'] 27)))
      have HNA := Lib.hid (HALL.out a (List.mem_of_getElem? ha))
      have HAM := Lib.hid (List.mem_of_getElem? ha)
      clear h0 h1 h2 h3 h4 h5 h6 ha hcells
      go_wp2_with (fail)
      refine (HIH.out S _ a _ HNA.out H2.out).mono ?_
      rintro e w3 ⟨rfl, hb3⟩
      have HB3 : Hid (Below w.heap.size w w3) := Lib.hid ((HB.out.alloc hsr _).trans (hb3.mono (by simp; omega)))
      have HX3 := Lib.hid ((hb3.block _ (by simp; have := cell_lt HBX.out; omega)).trans ((Below.heap_alloc wr _ _ (cell_lt HBX.out)).trans HBX.out))
      clear hb3 g0 g1 g2 g3 g4 g5
      cases hk : holdsT q a with
      | true =>
        have hres : holdsT (q + 1) t = true := by
         rw [holdsT, List.any_eq_true.2 ⟨a, HAM.out, hk⟩]; rfl
        have HRES := Lib.hid hres
        clear hk hres
        go_wp2_with (fail)
        go_ret
        exact ⟨by rw [HRES.out]; rfl, HB3.out⟩
      | false =>
        have HK := Lib.hid hk
        clear hk
        go_wp2_with (fail)
        go_roundw
        case rel => exact ⟨j + 1, by go_num, by omega, Lib.hid (HT.out.trans HK.out), HX3, HB3⟩
        case measure => simp [intOf]; omega
    · obtain rfl : j = t.kids.length := by omega
      have hany : t.kids.any (holdsT q) = false := by have := HH.out; rwa [List.take_length] at this
      have hres : holdsT (q + 1) t = (t.op == nameW && t.text == wW) := by rw [holdsT, hany]; rfl
      have x0 := cell6_0 HBX.out
      have x2 := cell6_2 HBX.out
      have xl := cell_lt HBX.out
      have HRES := Lib.hid hres
      clear hany hres
      by_cases h1 : t.op = nameW
      · have e1 : (t.op == nameW) = true := by simp [h1]
        have d1 : (t.op == [110, 97, 109, 101]) = true := e1
        by_cases h2 : t.text = wW
        · have e2 : (t.text == wW) = true := by simp [h2]
          have d2 : (t.text == [119]) = true := e2
          rw [e1, e2] at HRES
          clear h1 h2 e1 e2
          go_wp2_with (fail)
          go_ret
          exact ⟨by rw [HRES.out]; rfl, HB.out⟩
        · have e2 : (t.text == wW) = false := by simp [h2]
          have d2 : (t.text == [119]) = false := e2
          rw [e1, e2] at HRES
          clear h1 h2 e1 e2
          go_wp2_with (fail)
          go_ret
          exact ⟨by rw [HRES.out]; rfl, HB.out⟩
      · have e1 : (t.op == nameW) = false := by simp [h1]
        have d1 : (t.op == [110, 97, 109, 101]) = false := e1
        rw [e1] at HRES
        clear h1 e1
        go_wp2_with (fail)
        go_ret
        exact ⟨by rw [HRES.out]; rfl, HB.out⟩
