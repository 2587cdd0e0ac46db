/-
Package expr: what its reader reads as terms, as plain functions over a text's bytes; and that what is read at a place hangs on the bytes up to where the reading ends.
-/
import Derived.Test.YteebihdgfkmgmaaGreatDoorRc9
import Derived.Test.YteebihdgfkmgmaaGreatDoorRc3
import Derived.Test.YteebihdgfkmgmaaGreatDoorRc4
import Derived.Test.YteebihdgfkmgmaaGreatDoorWb
namespace Go.Proofs.YteebihdgfkmgmaaGreatDoor
open Go.RowKit

/-- What is read goes on with g; a fault stays where it is. -/
def bindP {α β : Type} (q : Nat × Option α) (g : Nat → α → Nat × Option β) : Nat × Option β := match q with
  | (m, none) => (m, none)
  | (m, some x) => g m x

def intW : List UInt8 := [105, 110, 116]
def textW : List UInt8 := [116, 101, 120, 116, 95, 111, 102]
def numN (l : List UInt8) (m : Nat) : Nat × Option Nd := ((numS l m).1, if (numS l m).2.2 then some (.mk intW (numV (rdB l m 45) (numS l m).2.1) [] ty0 []) else none)
def strN (l : List UInt8) (m : Nat) : Nat × Option Nd := bindP (strS l m) fun m' t => (m', some (.mk textW 0 t ty0 []))

section
variable (kp : List UInt8 → Nat × Option Ty)
/-- A type within a text. -/
def typR (l : List UInt8) (m : Nat) : Nat × Option Ty := match kp (l.drop m) with
  | (_, some t) => (l.length, some t)
  | (k, none) => (m + k, (kp ((l.drop m).take k)).2)
def digR (l : List UInt8) (m : Nat) : Nat × Option Int := if isDig (lkB l m) then (m + 1, some (((lkB l m).toNat : Int) - 48)) else (m, none)
/-- One part of what stands in a word's brackets; f: an expression. -/
def partR (f : Nat → Nat × Option Nd) (l : List UInt8) (p : UInt8) (m : Nat) (nd : Nd) : Nat × Option Nd :=
  if p = 100 then bindP (digR l (skip l m)) fun m' i => (m', some (.mk nd.op i nd.text nd.ty nd.kids))
  else if p = 116 then bindP (typR kp l (skip l m)) fun m' t => (m', some (.mk nd.op nd.int nd.text t nd.kids))
  else if p = 110 then bindP (nameR l (skip l m)) fun m' k => (m', some (.mk nd.op nd.int nd.text nd.ty (nd.kids ++ [k])))
  else bindP (f (skip l m)) fun m' k => (m', some (.mk nd.op nd.int nd.text nd.ty (nd.kids ++ [k])))
/-- A byte that blanks may stand ahead of. -/
def markR (l : List UInt8) (m : Nat) (b : UInt8) : Nat × Option Unit := if rdB l (skip l m) b then (skip l m + 1, some ()) else (skip l m, none)
/-- What stands in a word's brackets, from its i-th part on. -/
def partsR (f : Nat → Nat × Option Nd) (l : List UInt8) (least : Nat) : List UInt8 → Nat → UInt8 → Nat → Nd → Nat × Option Nd
  | [], _, _, m, _ => (m, none)
  | p :: ps, i, mark, m, nd => bindP (markR l m mark) fun m1 _ => bindP (partR kp f l p m1 nd) fun m2 nd' =>
      if least ≤ i + 1 then (match markR l m2 41 with
        | (m3, some _) => (m3, some nd')
        | (m3, none) => partsR f l least ps (i + 1) 44 m3 nd')
      else partsR f l least ps (i + 1) 44 m2 nd'
/-- An expression whose term is at most so deep. -/
def exprR (l : List UInt8) : Nat → Nat → Nat × Option Nd
  | 0, m => (m, none)
  | r + 1, m =>
    if decide (lkB l m = 45) || isDig (lkB l m) then numN l m
    else if lkB l m = 34 then strN l m
    else if isLet (lkB l m) then (match wdP (spel l m) with
      | none => (m + (spel l m).length, some (nameN (spel l m)))
      | some (p, least) => if hasB p 101 && decide (r = 0) then (m + (spel l m).length, none)
        else if p = [] then (m + (spel l m).length, some (.mk (spel l m) 0 [] ty0 []))
        else partsR kp (exprR l r) l least p 0 40 (m + (spel l m).length) (.mk (spel l m) 0 [] ty0 []))
    else (m, none)
/-- A text's term, or the place of its fault. -/
def parseR (l : List UInt8) : Nat × Option Nd := bindP (exprR kp l 24 (skip l 0)) fun m n => if skip l m < l.length then (skip l m, none) else (skip l m, some n)
end

/-- What is read of l ends at p.1; of a text that is the same up to there it is p', the same, or it ends there, too. -/
def Lo {α : Type} (l l' : List UInt8) (p p' : Nat × α) : Prop := (∀ j, j < p.1 → l'[j]? = l[j]?) → (l'[p.1]? = l[p.1]? → p' = p) ∧ (l'[p.1]? = none → p'.1 = p.1)
/-- Between m and the end. -/
def In {α : Type} (l : List UInt8) (m : Nat) (p : Nat × α) : Prop := m ≤ p.1 ∧ p.1 ≤ l.length

theorem lk_same {l l' : List UInt8} {j : Nat} (h : l'[j]? = l[j]?) : lkB l' j = lkB l j := by unfold lkB; rw [h]
theorem lk_none {l : List UInt8} {j : Nat} (h : l[j]? = none) : lkB l j = 0 := by unfold lkB; rw [h]; rfl
theorem none_le {l : List UInt8} {j : Nat} (h : l[j]? = none) : l.length ≤ j := List.getElem?_eq_none_iff.1 h

theorem In.bind {α β : Type} {l : List UInt8} {m : Nat} {q : Nat × Option α} {g : Nat → α → Nat × Option β} (hq : In l m q) (hg : ∀ m' x, m' ≤ l.length → In l m' (g m' x)) : In l m (bindP q g) := by
  match q, hq with
  | (k, none), hq => exact hq
  | (k, some x), hq =>
    have := hg k x hq.2
    exact ⟨Nat.le_trans hq.1 this.1, this.2⟩

theorem Lo.bind {α β : Type} {l l' : List UInt8} {q q' : Nat × Option α} {g g' : Nat → α → Nat × Option β} (hq : Lo l l' q q') (hq' : q'.1 ≤ l'.length) (hql : q.1 ≤ l.length)
    (hg : ∀ x, q.2 = some x → Lo l l' (g q.1 x) (g' q.1 x)) (hi : ∀ m x, m ≤ l.length → In l m (g m x)) (hi' : ∀ m x, m ≤ l'.length → In l' m (g' m x)) : Lo l l' (bindP q g) (bindP q' g') := by
  intro hs
  have hle : q.1 ≤ (bindP q g).1 := by
    match q, hql with
    | (k, none), _ => exact Nat.le_refl _
    | (k, some x), hql => exact (hi k x hql).1
  have hq0 := hq fun j hj => hs j (Nat.lt_of_lt_of_le hj hle)
  by_cases hsame : l'[q.1]? = l[q.1]?
  · have he := hq0.1 hsame
    subst he
    match q', hg, hs with
    | (k, none), _, _ => exact ⟨fun _ => rfl, fun _ => rfl⟩
    | (k, some x), hg, hs => exact hg x rfl hs
  · have hpe : (bindP q g).1 = q.1 := by
      rcases Nat.lt_or_ge q.1 (bindP q g).1 with h | h
      · exact absurd (hs _ h) hsame
      · omega
    rw [hpe]
    refine ⟨fun h => absurd h hsame, fun h => ?_⟩
    have he := hq0.2 h
    have hl := none_le h
    match q', he, hq' with
    | (k, none), he, _ => exact he
    | (k, some x), he, hq' =>
      have := hi' k x hq'
      have h1 := this.1
      have h2 := this.2
      have he' : k = q.1 := he
      show (g' k x).1 = q.1
      omega

theorem Lo.done {α : Type} {l l' : List UInt8} {m : Nat} {x x' : α} (h : l'[m]? = l[m]? → x' = x) : Lo l l' (m, x) (m, x') := fun _ => ⟨fun e => by rw [h e], fun _ => rfl⟩

theorem skip_in {l : List UInt8} {m : Nat} (h : m ≤ l.length) : m ≤ skip l m ∧ skip l m ≤ l.length := skip_le h
theorem skip_lo {l l' : List UInt8} : ∀ (f m : Nat), l.length - m ≤ f → m ≤ l.length → Lo l l' (skip l m, ()) (skip l' m, ())
  | f, m, hf, hm => by
    intro hs
    by_cases h32 : lkB l m = 32
    · have hlt : m < l.length := lkB_lt (by rw [h32]; decide)
      have hon := skip_on h32
      have hge := (skip_in (l := l) (m := m + 1) (by omega)).1
      have h32' : lkB l' m = 32 := (lk_same (hs m (by show m < skip l m; omega))).trans h32
      have hon' := skip_on h32'
      match f, hf with
      | 0, hf => omega
      | f + 1, hf =>
        have IH := skip_lo (l := l) (l' := l') f (m + 1) (by omega) (by omega)
        rw [hon, hon']
        exact IH (by rw [← hon]; exact hs)
    · have hoff := skip_off h32
      rw [hoff] at hs ⊢
      refine ⟨fun h => ?_, fun h => ?_⟩
      · have : lkB l' m ≠ 32 := by rw [lk_same h]; exact h32
        rw [skip_off this]
      · have : lkB l' m ≠ 32 := by rw [lk_none h]; decide
        show skip l' m = m
        exact skip_off this
end Go.Proofs.YteebihdgfkmgmaaGreatDoor

namespace Go.Proofs.YteebihdgfkmgmaaGreatDoor
open Go.RowKit

def nameW : List UInt8 := [110, 97, 109, 101]
/-- Whether nothing of these is set. -/
def bareN (i : Int) (t : List UInt8) (ty : Ty) (kids : List Nd) : Bool := decide (i = 0) && (decide (t = []) && (decide (ty.kind = 0) && (decide (ty.args.length = 0) && decide (kids.length = 0))))
def hexD (i : Nat) : UInt8 := if i < 10 then UInt8.ofNat (48 + i) else UInt8.ofNat (87 + i)
def quoB (b : UInt8) : List UInt8 := if isPl b then [b] else [92, hexD (b.toNat / 16), hexD (b.toNat % 16)]
def quoL (t : List UInt8) : List UInt8 := t.flatMap quoB
def quoS (t : List UInt8) : List UInt8 := 34 :: (quoL t ++ [34])

abbrev StW := List UInt8 × Nat
/-- The Kids behind a word, from one on; f: a term. -/
def kidsW (f : Nd → StW → Option StW) : List Nd → List UInt8 → UInt8 → StW → Option StW
  | [], _, _, s => some (s.1 ++ [41], s.2)
  | _ :: _, [], _, _ => none
  | n :: l, p :: ps, mark, s => if p = 110 ∧ n.op ≠ nameW then none else match f n (s.1 ++ [mark], s.2) with
    | none => none
    | some s' => kidsW f l ps 44 s'
/-- What a term that begins with a word with these parts writes. -/
def wordP (f : Nd → StW → Option StW) (p : List UInt8) (least : Nat) (n : Nd) (s : StW) : Option StW :=
  if hasB p 101 then (if n.kids.length < least ∨ p.length < n.kids.length then none else (kidsW f n.kids p 40 (s.1 ++ n.op, s.2)).bind fun s' => if bareN n.int n.text n.ty [] then some s' else none)
  else if hasB p 100 then (if n.int < 0 ∨ 9 < n.int then none else if bareN 0 n.text n.ty n.kids then some (s.1 ++ n.op ++ ([40] ++ Lib.itoa n.int ++ [41]), s.2) else none)
  else if hasB p 116 then (if (Knd.measureT 6 n.ty).isSome then (if bareN n.int n.text ty0 n.kids then some (s.1 ++ n.op ++ ([40] ++ Knd.textT 6 n.ty ++ [41]), s.2) else none) else none)
  else if bareN n.int n.text n.ty n.kids then some (s.1 ++ n.op, s.2) else none
/-- What a term that begins with a word writes. -/
def wordW (f : Nd → StW → Option StW) (n : Nd) (s : StW) : Option StW := match wdP n.op with
  | none => none
  | some (p, least) => wordP f p least n s
/-- What is written of a term that is at most so deep: all that is written behind it, and how many nodes are counted. -/
def termW : Nat → Nd → StW → Option StW
  | 0, _, _ => none
  | r + 1, n, s => if 4096 < s.1.length then none
    else if n.op = intW then (if bareN 0 n.text n.ty n.kids then some (s.1 ++ Lib.itoa n.int, s.2 + 1) else none)
    else if n.op = textW then (if 256 < n.text.length then none else if bareN n.int [] n.ty n.kids then some (s.1 ++ quoS n.text, s.2 + 1) else none)
    else if n.op = nameW then (if isNm n.text then (if bareN n.int [] n.ty n.kids then some (s.1 ++ n.text, s.2 + 1) else none) else none)
    else wordW (termW r) n (s.1, s.2 + 1)
/-- What is written of a term, and how many nodes it has. -/
def showW (n : Nd) : Option StW := match termW 24 n ([], 0) with
  | none => none
  | some s => if 4096 < s.1.length then none else some s

theorem nDig_le : ∀ (k u : Nat), u < 10 ^ (k + 1) → Lib.nDigits u ≤ k + 1
  | 0, u, h => by rw [Lib.nDigits_small (by simpa using h)]; omega
  | k + 1, u, h => by
    by_cases h10 : u < 10
    · rw [Lib.nDigits_small h10]; omega
    · rw [Lib.nDigits_big h10]
      rw [Nat.pow_succ] at h
      have := nDig_le k (u / 10) (by omega)
      omega
theorem digits_le (n : Nat) (h : n < 10 ^ 20) : (Lib.decDigits n).length ≤ 20 := by
  rw [Lib.decDigits_length]
  exact nDig_le 19 n h
theorem itoa_le (n : Int) (h0 : -9223372036854775808 ≤ n) (h1 : n ≤ 9223372036854775807) : (Lib.itoa n).length ≤ 21 := by
  unfold Lib.itoa
  split
  · rw [List.length_cons]
    have := digits_le n.natAbs (by omega)
    omega
  · have := digits_le n.toNat (by omega)
    omega
theorem quoL_le : ∀ t : List UInt8, (quoL t).length ≤ 3 * t.length
  | [] => by simp [quoL]
  | b :: t => by
    have := quoL_le t
    have hb : (quoB b).length ≤ 3 := by unfold quoB; split <;> simp
    unfold quoL at *
    rw [List.flatMap_cons, List.length_append, List.length_cons]
    omega
theorem name_le {t : List UInt8} (h : isNm t = true) : t.length ≤ 16 := by
  unfold isNm at h
  simp only [Bool.and_eq_true, decide_eq_true_eq] at h
  have := nmL_le t
  omega

/-- All ints of a term are ints, all texts such as a program can hold. -/
def RgN : Nat → Nd → Prop
  | 0, _ => True
  | r + 1, n => -9223372036854775808 ≤ n.int ∧ n.int ≤ 9223372036854775807 ∧ n.text.length ≤ 1000000 ∧ ∀ k ∈ n.kids, RgN r k

theorem kidsW_len {f : Nd → StW → Option StW} {F : Nat} : ∀ (l : List Nd) (p : List UInt8) (mark : UInt8) (s s' : StW), (∀ n ∈ l, ∀ s s', f n s = some s' → s'.1.length ≤ F) → s.1.length ≤ F → kidsW f l p mark s = some s' → s'.1.length ≤ F + 1
  | [], _, _, s, s', _, hs, h => by
    simp only [kidsW, Option.some.injEq] at h
    subst h
    simp
    omega
  | _ :: _, [], _, _, _, _, _, h => by simp [kidsW] at h
  | n :: l, p :: ps, mark, s, s', hf, hs, h => by
    unfold kidsW at h
    split at h
    · cases h
    · split at h
      · cases h
      · rename_i s2 h2
        exact kidsW_len l ps 44 s2 s' (fun m hm => hf m (List.mem_cons_of_mem _ hm)) (hf n (List.mem_cons_self ..) _ _ h2) h

theorem wdN_len : (wdL.all fun x => decide (x.1.length ≤ 16)) = true := by decide +kernel
theorem wd_le {t : List UInt8} {x : List UInt8 × Nat} (h : wdP t = some x) : t.length ≤ 16 := by
  unfold wdP at h
  by_cases hl : t = listW
  · rw [hl]; decide
  · rw [if_neg hl] at h
    cases hf : wdL.find? (fun x => decide (x.1 = t)) with
    | none => rw [hf] at h; cases h
    | some y =>
      have h1 := List.all_eq_true.1 wdN_len y (List.mem_of_find?_eq_some hf)
      have h2 := List.find?_some hf
      simp only [decide_eq_true_eq] at h1 h2
      rw [← h2]
      exact h1

theorem wordW_len {f : Nd → StW → Option StW} {F : Nat} {n : Nd} {s s' : StW} (hF : 4900 ≤ F) (hs : s.1.length ≤ 4096) (hr : -9223372036854775808 ≤ n.int ∧ n.int ≤ 9223372036854775807) (hf : ∀ k ∈ n.kids, ∀ s s', f k s = some s' → s'.1.length ≤ F) (h : wordW f n s = some s') : s'.1.length ≤ F + 1 := by
  unfold wordW at h
  cases hw : wdP n.op with
  | none => rw [hw] at h; cases h
  | some x =>
    obtain ⟨p, least⟩ := x
    have ho := wd_le hw
    rw [hw] at h
    simp only [wordP] at h
    by_cases h1 : hasB p 101 = true
    · rw [if_pos h1] at h
      split at h
      · cases h
      · obtain ⟨s2, h2, h⟩ := Option.bind_eq_some_iff.1 h
        split at h
        · injection h with h
          subst h
          exact kidsW_len n.kids p 40 _ _ hf (by simp; omega) h2
        · cases h
    · rw [if_neg h1] at h
      by_cases h3 : hasB p 100 = true
      · rw [if_pos h3] at h
        split at h
        · cases h
        · split at h
          · injection h with h
            subst h
            have := itoa_le n.int hr.1 hr.2
            simp
            omega
          · cases h
      · rw [if_neg h3] at h
        by_cases h4 : hasB p 116 = true
        · rw [if_pos h4] at h
          split at h
          · rename_i hq
            obtain ⟨q, hq⟩ := Option.isSome_iff_exists.1 hq
            split at h
            · injection h with h
              subst h
              have := Knd.textT_small 6 n.ty q hq
              simp
              omega
            · cases h
          · cases h
        · rw [if_neg h4] at h
          split at h
          · injection h with h
            subst h
            simp
            omega
          · cases h

theorem termW_len : ∀ (r : Nat) (n : Nd) (s s' : StW), RgN r n → termW r n s = some s' → s'.1.length ≤ 4900 + r
  | 0, n, s, s', _, h => by simp [termW] at h
  | r + 1, n, s, s', hr, h => by
    obtain ⟨r0, r1, _, rk⟩ := hr
    unfold termW at h
    split at h
    · cases h
    · rename_i hs
      split at h
      · split at h
        · injection h with h
          subst h
          have := itoa_le n.int r0 r1
          simp
          omega
        · cases h
      · split at h
        · split at h
          · cases h
          · split at h
            · injection h with h
              subst h
              have := quoL_le n.text
              simp [quoS]
              omega
            · cases h
        · split at h
          · split at h
            · rename_i hn
              split at h
              · injection h with h
                subst h
                have := name_le hn
                simp
                omega
              · cases h
            · cases h
          · have := wordW_len (F := 4900 + r) (by omega) (by simp; omega) ⟨r0, r1⟩ (fun k hk s s' hk' => termW_len r k s s' (rk k hk) hk') h
            omega

theorem itoa_pos (n : Int) : 1 ≤ (Lib.itoa n).length := by
  have h := fun u => Lib.nDigits_pos u
  unfold Lib.itoa
  split
  · simp
  · rw [Lib.decDigits_length]; exact h _
theorem wdN_pos : (wdL.all fun x => decide (1 ≤ x.1.length)) = true := by decide +kernel
theorem wd_pos {t : List UInt8} {x : List UInt8 × Nat} (h : wdP t = some x) : 1 ≤ t.length := by
  unfold wdP at h
  by_cases hl : t = listW
  · rw [hl]; decide
  · rw [if_neg hl] at h
    cases hf : wdL.find? (fun x => decide (x.1 = t)) with
    | none => rw [hf] at h; cases h
    | some y =>
      have h1 := List.all_eq_true.1 wdN_pos y (List.mem_of_find?_eq_some hf)
      have h2 := List.find?_some hf
      simp only [decide_eq_true_eq] at h1 h2
      rw [← h2]
      exact h1
theorem name_pos {t : List UInt8} (h : isNm t = true) : 1 ≤ t.length := by
  unfold isNm at h
  simp only [Bool.and_eq_true, decide_eq_true_eq] at h
  cases t with
  | nil => exact absurd rfl h.1.1
  | cons a l => simp
theorem kidsW_cnt {f : Nd → StW → Option StW} : ∀ (l : List Nd) (p : List UInt8) (mark : UInt8) (s s' : StW), (∀ n ∈ l, ∀ s s', f n s = some s' → s.2 ≤ s.1.length → s'.2 ≤ s'.1.length) → s.2 ≤ s.1.length → kidsW f l p mark s = some s' → s'.2 ≤ s'.1.length
  | [], _, _, s, s', _, hs, h => by
    simp only [kidsW, Option.some.injEq] at h
    subst h
    simp
    omega
  | _ :: _, [], _, _, _, _, _, h => by simp [kidsW] at h
  | n :: l, p :: ps, mark, s, s', hf, hs, h => by
    unfold kidsW at h
    split at h
    · cases h
    · split at h
      · cases h
      · rename_i s2 h2
        exact kidsW_cnt l ps 44 s2 s' (fun m hm => hf m (List.mem_cons_of_mem _ hm)) (hf n (List.mem_cons_self ..) _ _ h2 (by simp; omega)) h
theorem wordW_cnt {f : Nd → StW → Option StW} {n : Nd} {s s' : StW} (hs : s.2 ≤ s.1.length + 1) (hf : ∀ k ∈ n.kids, ∀ s s', f k s = some s' → s.2 ≤ s.1.length → s'.2 ≤ s'.1.length) (h : wordW f n s = some s') : s'.2 ≤ s'.1.length := by
  unfold wordW at h
  cases hw : wdP n.op with
  | none => rw [hw] at h; cases h
  | some x =>
    obtain ⟨p, least⟩ := x
    have ho := wd_pos hw
    rw [hw] at h
    simp only [wordP] at h
    by_cases h1 : hasB p 101 = true
    · rw [if_pos h1] at h
      split at h
      · cases h
      · obtain ⟨s2, h2, h⟩ := Option.bind_eq_some_iff.1 h
        split at h
        · injection h with h
          subst h
          exact kidsW_cnt n.kids p 40 _ _ hf (by simp; omega) h2
        · cases h
    · rw [if_neg h1] at h
      by_cases h3 : hasB p 100 = true
      · rw [if_pos h3] at h
        split at h
        · cases h
        · split at h
          · injection h with h
            subst h
            simp
            omega
          · cases h
      · rw [if_neg h3] at h
        by_cases h4 : hasB p 116 = true
        · rw [if_pos h4] at h
          split at h
          · split at h
            · injection h with h
              subst h
              simp
              omega
            · cases h
          · cases h
        · rw [if_neg h4] at h
          split at h
          · injection h with h
            subst h
            simp
            omega
          · cases h
theorem termW_cnt : ∀ (r : Nat) (n : Nd) (s s' : StW), termW r n s = some s' → s.2 ≤ s.1.length → s'.2 ≤ s'.1.length
  | 0, n, s, s', h, _ => by simp [termW] at h
  | r + 1, n, s, s', h, hs => by
    unfold termW at h
    split at h
    · cases h
    · split at h
      · split at h
        · injection h with h
          subst h
          have := itoa_pos n.int
          simp
          omega
        · cases h
      · split at h
        · split at h
          · cases h
          · split at h
            · injection h with h
              subst h
              simp [quoS]
              omega
            · cases h
        · split at h
          · split at h
            · rename_i hn
              split at h
              · injection h with h
                subst h
                have := name_pos hn
                simp
                omega
              · cases h
            · cases h
          · exact wordW_cnt (by simp; omega) (fun k _ s s' hk' hs' => termW_cnt r k s s' hk' hs') h
end Go.Proofs.YteebihdgfkmgmaaGreatDoor
