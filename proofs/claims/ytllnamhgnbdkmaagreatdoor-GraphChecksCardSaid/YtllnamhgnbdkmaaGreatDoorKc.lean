/-
The writer of package expr: its builder, which is embedded: copyCheck, WriteString, WriteByte, Len, String. Package expr: what its reader reads as terms, as plain functions over a text's bytes; and that what is read at a place hangs on the bytes up to where the reading ends. Package expr: what is read at a place hangs on the bytes up to where the reading ends: numbers, strings, names. The node that a word's parts are laid to. Package expr: readPart, of a name. The node under way: it moves; a digit laid to it. Ported from the texts of layer 2: Kc.
-/
import Derived.Test.YtllnamhgnbdkmaaGreatDoorKd
import Derived.Test.YtllnamhgnbdkmaaGreatDoorRc7
import Derived.Lib.UnsafeStr
import Derived.Test.YtllnamhgnbdkmaaGreatDoorRc3
import Derived.Deep.AppendLies
import Derived.Deep.RegionLaw
import Derived.Test.YtllnamhgnbdkmaaGreatDoorKb
namespace Go.Proofs.YtllnamhgnbdkmaaGreatDoor
open Go.RowKit
open Knd (BFr)

theorem bcl_append (l m : List UInt8) : bcl (l ++ m) = bcl l ++ bcl m := by simp [bcl]
theorem bcl_str (s : ByteArray) : Lib.strCells s = bcl (bl s) := by simp [bcl, bl, Lib.strCells]

theorem cells5 : Tryz.prog.cellsOf 5 = 1 := by kernel_rfl

end Go.Proofs.YtllnamhgnbdkmaaGreatDoor
namespace Go.Proofs.YtllnamhgnbdkmaaGreatDoor
open Go.RowKit

/-- What is read goes on with g; a fault stays where it is. -/
def bindP {α β : Type} (q : Nat × Option α) (g : Nat → α → Nat × Option β) : Nat × Option β := match q with
  | (m, none) => (m, none)
  | (m, some x) => g m x

def intW : List UInt8 := [105, 110, 116]
def textW : List UInt8 := [116, 101, 120, 116, 95, 111, 102]
def numN (l : List UInt8) (m : Nat) : Nat × Option Nd := ((numS l m).1, if (numS l m).2.2 then some (.mk intW (numV (rdB l m 45) (numS l m).2.1) [] ty0 []) else none)
def strN (l : List UInt8) (m : Nat) : Nat × Option Nd := bindP (strS l m) fun m' t => (m', some (.mk textW 0 t ty0 []))

section
variable (kp : List UInt8 → Nat × Option Ty)
/-- A type within a text. -/
def typR (l : List UInt8) (m : Nat) : Nat × Option Ty := match kp (l.drop m) with
  | (_, some t) => (l.length, some t)
  | (k, none) => (m + k, (kp ((l.drop m).take k)).2)
def digR (l : List UInt8) (m : Nat) : Nat × Option Int := if isDig (lkB l m) then (m + 1, some (((lkB l m).toNat : Int) - 48)) else (m, none)
/-- One part of what stands in a word's brackets; f: an expression. -/
def partR (f : Nat → Nat × Option Nd) (l : List UInt8) (p : UInt8) (m : Nat) (nd : Nd) : Nat × Option Nd :=
  if p = 100 then bindP (digR l (skip l m)) fun m' i => (m', some (.mk nd.op i nd.text nd.ty nd.kids))
  else if p = 116 then bindP (typR kp l (skip l m)) fun m' t => (m', some (.mk nd.op nd.int nd.text t nd.kids))
  else if p = 110 then bindP (nameR l (skip l m)) fun m' k => (m', some (.mk nd.op nd.int nd.text nd.ty (nd.kids ++ [k])))
  else bindP (f (skip l m)) fun m' k => (m', some (.mk nd.op nd.int nd.text nd.ty (nd.kids ++ [k])))
/-- A byte that blanks may stand ahead of. -/
def markR (l : List UInt8) (m : Nat) (b : UInt8) : Nat × Option Unit := if rdB l (skip l m) b then (skip l m + 1, some ()) else (skip l m, none)
/-- What stands in a word's brackets, from its i-th part on. -/
def partsR (f : Nat → Nat × Option Nd) (l : List UInt8) (least : Nat) : List UInt8 → Nat → UInt8 → Nat → Nd → Nat × Option Nd
  | [], _, _, m, _ => (m, none)
  | p :: ps, i, mark, m, nd => bindP (markR l m mark) fun m1 _ => bindP (partR kp f l p m1 nd) fun m2 nd' =>
      if least ≤ i + 1 then (match markR l m2 41 with
        | (m3, some _) => (m3, some nd')
        | (m3, none) => partsR f l least ps (i + 1) 44 m3 nd')
      else partsR f l least ps (i + 1) 44 m2 nd'
/-- An expression whose term is at most so deep. -/
def exprR (l : List UInt8) : Nat → Nat → Nat × Option Nd
  | 0, m => (m, none)
  | r + 1, m =>
    if decide (lkB l m = 45) || isDig (lkB l m) then numN l m
    else if lkB l m = 34 then strN l m
    else if isLet (lkB l m) then (match wdP (spel l m) with
      | none => (m + (spel l m).length, some (nameN (spel l m)))
      | some (p, least) => if hasB p 101 && decide (r = 0) then (m + (spel l m).length, none)
        else if p = [] then (m + (spel l m).length, some (.mk (spel l m) 0 [] ty0 []))
        else partsR kp (exprR l r) l least p 0 40 (m + (spel l m).length) (.mk (spel l m) 0 [] ty0 []))
    else (m, none)
/-- A text's term, or the place of its fault. -/
def parseR (l : List UInt8) : Nat × Option Nd := bindP (exprR kp l 24 (skip l 0)) fun m n => if skip l m < l.length then (skip l m, none) else (skip l m, some n)
end

/-- What is read of l ends at p.1; of a text that is the same up to there it is p', the same, or it ends there, too. -/
def Lo {α : Type} (l l' : List UInt8) (p p' : Nat × α) : Prop := (∀ j, j < p.1 → l'[j]? = l[j]?) → (l'[p.1]? = l[p.1]? → p' = p) ∧ (l'[p.1]? = none → p'.1 = p.1)
/-- Between m and the end. -/
def In {α : Type} (l : List UInt8) (m : Nat) (p : Nat × α) : Prop := m ≤ p.1 ∧ p.1 ≤ l.length

theorem lk_same {l l' : List UInt8} {j : Nat} (h : l'[j]? = l[j]?) : lkB l' j = lkB l j := by unfold lkB; rw [h]
theorem lk_none {l : List UInt8} {j : Nat} (h : l[j]? = none) : lkB l j = 0 := by unfold lkB; rw [h]; rfl
theorem none_le {l : List UInt8} {j : Nat} (h : l[j]? = none) : l.length ≤ j := List.getElem?_eq_none_iff.1 h

theorem In.bind {α β : Type} {l : List UInt8} {m : Nat} {q : Nat × Option α} {g : Nat → α → Nat × Option β} (hq : In l m q) (hg : ∀ m' x, m' ≤ l.length → In l m' (g m' x)) : In l m (bindP q g) := by
  match q, hq with
  | (k, none), hq => exact hq
  | (k, some x), hq =>
    have := hg k x hq.2
    exact ⟨Nat.le_trans hq.1 this.1, this.2⟩

theorem Lo.bind {α β : Type} {l l' : List UInt8} {q q' : Nat × Option α} {g g' : Nat → α → Nat × Option β} (hq : Lo l l' q q') (hq' : q'.1 ≤ l'.length) (hql : q.1 ≤ l.length)
    (hg : ∀ x, q.2 = some x → Lo l l' (g q.1 x) (g' q.1 x)) (hi : ∀ m x, m ≤ l.length → In l m (g m x)) (hi' : ∀ m x, m ≤ l'.length → In l' m (g' m x)) : Lo l l' (bindP q g) (bindP q' g') := by
  intro hs
  have hle : q.1 ≤ (bindP q g).1 := by
    match q, hql with
    | (k, none), _ => exact Nat.le_refl _
    | (k, some x), hql => exact (hi k x hql).1
  have hq0 := hq fun j hj => hs j (Nat.lt_of_lt_of_le hj hle)
  by_cases hsame : l'[q.1]? = l[q.1]?
  · have he := hq0.1 hsame
    subst he
    match q', hg, hs with
    | (k, none), _, _ => exact ⟨fun _ => rfl, fun _ => rfl⟩
    | (k, some x), hg, hs => exact hg x rfl hs
  · have hpe : (bindP q g).1 = q.1 := by
      rcases Nat.lt_or_ge q.1 (bindP q g).1 with h | h
      · exact absurd (hs _ h) hsame
      · omega
    rw [hpe]
    refine ⟨fun h => absurd h hsame, fun h => ?_⟩
    have he := hq0.2 h
    have hl := none_le h
    match q', he, hq' with
    | (k, none), he, _ => exact he
    | (k, some x), he, hq' =>
      have := hi' k x hq'
      have h1 := this.1
      have h2 := this.2
      have he' : k = q.1 := he
      show (g' k x).1 = q.1
      omega

theorem Lo.done {α : Type} {l l' : List UInt8} {m : Nat} {x x' : α} (h : l'[m]? = l[m]? → x' = x) : Lo l l' (m, x) (m, x') := fun _ => ⟨fun e => by rw [h e], fun _ => rfl⟩

theorem skip_in {l : List UInt8} {m : Nat} (h : m ≤ l.length) : m ≤ skip l m ∧ skip l m ≤ l.length := skip_le h
theorem skip_lo {l l' : List UInt8} : ∀ (f m : Nat), l.length - m ≤ f → m ≤ l.length → Lo l l' (skip l m, ()) (skip l' m, ())
  | f, m, hf, hm => by
    intro hs
    by_cases h32 : lkB l m = 32
    · have hlt : m < l.length := lkB_lt (by rw [h32]; decide)
      have hon := skip_on h32
      have hge := (skip_in (l := l) (m := m + 1) (by omega)).1
      have h32' : lkB l' m = 32 := (lk_same (hs m (by show m < skip l m; omega))).trans h32
      have hon' := skip_on h32'
      match f, hf with
      | 0, hf => omega
      | f + 1, hf =>
        have IH := skip_lo (l := l) (l' := l') f (m + 1) (by omega) (by omega)
        rw [hon, hon']
        exact IH (by rw [← hon]; exact hs)
    · have hoff := skip_off h32
      rw [hoff] at hs ⊢
      refine ⟨fun h => ?_, fun h => ?_⟩
      · have : lkB l' m ≠ 32 := by rw [lk_same h]; exact h32
        rw [skip_off this]
      · have : lkB l' m ≠ 32 := by rw [lk_none h]; decide
        show skip l' m = m
        exact skip_off this
end Go.Proofs.YtllnamhgnbdkmaaGreatDoor

namespace Go.Proofs.YtllnamhgnbdkmaaGreatDoor
open Go.RowKit

def nameW : List UInt8 := [110, 97, 109, 101]
/-- Whether nothing of these is set. -/
def bareN (i : Int) (t : List UInt8) (ty : Ty) (kids : List Nd) : Bool := decide (i = 0) && (decide (t = []) && (decide (ty.kind = 0) && (decide (ty.args.length = 0) && decide (kids.length = 0))))
def hexD (i : Nat) : UInt8 := if i < 10 then UInt8.ofNat (48 + i) else UInt8.ofNat (87 + i)
def quoB (b : UInt8) : List UInt8 := if isPl b then [b] else [92, hexD (b.toNat / 16), hexD (b.toNat % 16)]
def quoL (t : List UInt8) : List UInt8 := t.flatMap quoB
def quoS (t : List UInt8) : List UInt8 := 34 :: (quoL t ++ [34])

abbrev StW := List UInt8 × Nat
/-- The Kids behind a word, from one on; f: a term. -/
def kidsW (f : Nd → StW → Option StW) : List Nd → List UInt8 → UInt8 → StW → Option StW
  | [], _, _, s => some (s.1 ++ [41], s.2)
  | _ :: _, [], _, _ => none
  | n :: l, p :: ps, mark, s => if p = 110 ∧ n.op ≠ nameW then none else match f n (s.1 ++ [mark], s.2) with
    | none => none
    | some s' => kidsW f l ps 44 s'
/-- What a term that begins with a word with these parts writes. -/
def wordP (f : Nd → StW → Option StW) (p : List UInt8) (least : Nat) (n : Nd) (s : StW) : Option StW :=
  if hasB p 101 then (if n.kids.length < least ∨ p.length < n.kids.length then none else (kidsW f n.kids p 40 (s.1 ++ n.op, s.2)).bind fun s' => if bareN n.int n.text n.ty [] then some s' else none)
  else if hasB p 100 then (if n.int < 0 ∨ 9 < n.int then none else if bareN 0 n.text n.ty n.kids then some (s.1 ++ n.op ++ ([40] ++ Lib.itoa n.int ++ [41]), s.2) else none)
  else if hasB p 116 then (if (Knd.measureT 6 n.ty).isSome then (if bareN n.int n.text ty0 n.kids then some (s.1 ++ n.op ++ ([40] ++ Knd.textT 6 n.ty ++ [41]), s.2) else none) else none)
  else if bareN n.int n.text n.ty n.kids then some (s.1 ++ n.op, s.2) else none
/-- What a term that begins with a word writes. -/
def wordW (f : Nd → StW → Option StW) (n : Nd) (s : StW) : Option StW := match wdP n.op with
  | none => none
  | some (p, least) => wordP f p least n s
/-- What is written of a term that is at most so deep: all that is written behind it, and how many nodes are counted. -/
def termW : Nat → Nd → StW → Option StW
  | 0, _, _ => none
  | r + 1, n, s => if 4096 < s.1.length then none
    else if n.op = intW then (if bareN 0 n.text n.ty n.kids then some (s.1 ++ Lib.itoa n.int, s.2 + 1) else none)
    else if n.op = textW then (if 256 < n.text.length then none else if bareN n.int [] n.ty n.kids then some (s.1 ++ quoS n.text, s.2 + 1) else none)
    else if n.op = nameW then (if isNm n.text then (if bareN n.int [] n.ty n.kids then some (s.1 ++ n.text, s.2 + 1) else none) else none)
    else wordW (termW r) n (s.1, s.2 + 1)
/-- What is written of a term, and how many nodes it has. -/
def showW (n : Nd) : Option StW := match termW 24 n ([], 0) with
  | none => none
  | some s => if 4096 < s.1.length then none else some s

theorem nDig_le : ∀ (k u : Nat), u < 10 ^ (k + 1) → Lib.nDigits u ≤ k + 1
  | 0, u, h => by rw [Lib.nDigits_small (by simpa using h)]; omega
  | k + 1, u, h => by
    by_cases h10 : u < 10
    · rw [Lib.nDigits_small h10]; omega
    · rw [Lib.nDigits_big h10]
      rw [Nat.pow_succ] at h
      have := nDig_le k (u / 10) (by omega)
      omega
theorem digits_le (n : Nat) (h : n < 10 ^ 20) : (Lib.decDigits n).length ≤ 20 := by
  rw [Lib.decDigits_length]
  exact nDig_le 19 n h
theorem itoa_le (n : Int) (h0 : -9223372036854775808 ≤ n) (h1 : n ≤ 9223372036854775807) : (Lib.itoa n).length ≤ 21 := by
  unfold Lib.itoa
  split
  · rw [List.length_cons]
    have := digits_le n.natAbs (by omega)
    omega
  · have := digits_le n.toNat (by omega)
    omega
theorem quoL_le : ∀ t : List UInt8, (quoL t).length ≤ 3 * t.length
  | [] => by simp [quoL]
  | b :: t => by
    have := quoL_le t
    have hb : (quoB b).length ≤ 3 := by unfold quoB; split <;> simp
    unfold quoL at *
    rw [List.flatMap_cons, List.length_append, List.length_cons]
    omega
theorem name_le {t : List UInt8} (h : isNm t = true) : t.length ≤ 16 := by
  unfold isNm at h
  simp only [Bool.and_eq_true, decide_eq_true_eq] at h
  have := nmL_le t
  omega

/-- All ints of a term are ints, all texts such as a program can hold. -/
def RgN : Nat → Nd → Prop
  | 0, _ => True
  | r + 1, n => -9223372036854775808 ≤ n.int ∧ n.int ≤ 9223372036854775807 ∧ n.text.length ≤ 1000000 ∧ ∀ k ∈ n.kids, RgN r k

theorem kidsW_len {f : Nd → StW → Option StW} {F : Nat} : ∀ (l : List Nd) (p : List UInt8) (mark : UInt8) (s s' : StW), (∀ n ∈ l, ∀ s s', f n s = some s' → s'.1.length ≤ F) → s.1.length ≤ F → kidsW f l p mark s = some s' → s'.1.length ≤ F + 1
  | [], _, _, s, s', _, hs, h => by
    simp only [kidsW, Option.some.injEq] at h
    subst h
    simp
    omega
  | _ :: _, [], _, _, _, _, _, h => by simp [kidsW] at h
  | n :: l, p :: ps, mark, s, s', hf, hs, h => by
    unfold kidsW at h
    split at h
    · cases h
    · split at h
      · cases h
      · rename_i s2 h2
        exact kidsW_len l ps 44 s2 s' (fun m hm => hf m (List.mem_cons_of_mem _ hm)) (hf n (List.mem_cons_self ..) _ _ h2) h

theorem wdN_len : (wdL.all fun x => decide (x.1.length ≤ 16)) = true := by decide +kernel
theorem wd_le {t : List UInt8} {x : List UInt8 × Nat} (h : wdP t = some x) : t.length ≤ 16 := by
  unfold wdP at h
  by_cases hl : t = listW
  · rw [hl]; decide
  · rw [if_neg hl] at h
    cases hf : wdL.find? (fun x => decide (x.1 = t)) with
    | none => rw [hf] at h; cases h
    | some y =>
      have h1 := List.all_eq_true.1 wdN_len y (List.mem_of_find?_eq_some hf)
      have h2 := List.find?_some hf
      simp only [decide_eq_true_eq] at h1 h2
      rw [← h2]
      exact h1

theorem wordW_len {f : Nd → StW → Option StW} {F : Nat} {n : Nd} {s s' : StW} (hF : 4900 ≤ F) (hs : s.1.length ≤ 4096) (hr : -9223372036854775808 ≤ n.int ∧ n.int ≤ 9223372036854775807) (hf : ∀ k ∈ n.kids, ∀ s s', f k s = some s' → s'.1.length ≤ F) (h : wordW f n s = some s') : s'.1.length ≤ F + 1 := by
  unfold wordW at h
  cases hw : wdP n.op with
  | none => rw [hw] at h; cases h
  | some x =>
    obtain ⟨p, least⟩ := x
    have ho := wd_le hw
    rw [hw] at h
    simp only [wordP] at h
    by_cases h1 : hasB p 101 = true
    · rw [if_pos h1] at h
      split at h
      · cases h
      · obtain ⟨s2, h2, h⟩ := Option.bind_eq_some_iff.1 h
        split at h
        · injection h with h
          subst h
          exact kidsW_len n.kids p 40 _ _ hf (by simp; omega) h2
        · cases h
    · rw [if_neg h1] at h
      by_cases h3 : hasB p 100 = true
      · rw [if_pos h3] at h
        split at h
        · cases h
        · split at h
          · injection h with h
            subst h
            have := itoa_le n.int hr.1 hr.2
            simp
            omega
          · cases h
      · rw [if_neg h3] at h
        by_cases h4 : hasB p 116 = true
        · rw [if_pos h4] at h
          split at h
          · rename_i hq
            obtain ⟨q, hq⟩ := Option.isSome_iff_exists.1 hq
            split at h
            · injection h with h
              subst h
              have := Knd.textT_small 6 n.ty q hq
              simp
              omega
            · cases h
          · cases h
        · rw [if_neg h4] at h
          split at h
          · injection h with h
            subst h
            simp
            omega
          · cases h

theorem termW_len : ∀ (r : Nat) (n : Nd) (s s' : StW), RgN r n → termW r n s = some s' → s'.1.length ≤ 4900 + r
  | 0, n, s, s', _, h => by simp [termW] at h
  | r + 1, n, s, s', hr, h => by
    obtain ⟨r0, r1, _, rk⟩ := hr
    unfold termW at h
    split at h
    · cases h
    · rename_i hs
      split at h
      · split at h
        · injection h with h
          subst h
          have := itoa_le n.int r0 r1
          simp
          omega
        · cases h
      · split at h
        · split at h
          · cases h
          · split at h
            · injection h with h
              subst h
              have := quoL_le n.text
              simp [quoS]
              omega
            · cases h
        · split at h
          · split at h
            · rename_i hn
              split at h
              · injection h with h
                subst h
                have := name_le hn
                simp
                omega
              · cases h
            · cases h
          · have := wordW_len (F := 4900 + r) (by omega) (by simp; omega) ⟨r0, r1⟩ (fun k hk s s' hk' => termW_len r k s s' (rk k hk) hk') h
            omega

theorem itoa_pos (n : Int) : 1 ≤ (Lib.itoa n).length := by
  have h := fun u => Lib.nDigits_pos u
  unfold Lib.itoa
  split
  · simp
  · rw [Lib.decDigits_length]; exact h _
theorem wdN_pos : (wdL.all fun x => decide (1 ≤ x.1.length)) = true := by decide +kernel
theorem wd_pos {t : List UInt8} {x : List UInt8 × Nat} (h : wdP t = some x) : 1 ≤ t.length := by
  unfold wdP at h
  by_cases hl : t = listW
  · rw [hl]; decide
  · rw [if_neg hl] at h
    cases hf : wdL.find? (fun x => decide (x.1 = t)) with
    | none => rw [hf] at h; cases h
    | some y =>
      have h1 := List.all_eq_true.1 wdN_pos y (List.mem_of_find?_eq_some hf)
      have h2 := List.find?_some hf
      simp only [decide_eq_true_eq] at h1 h2
      rw [← h2]
      exact h1
theorem name_pos {t : List UInt8} (h : isNm t = true) : 1 ≤ t.length := by
  unfold isNm at h
  simp only [Bool.and_eq_true, decide_eq_true_eq] at h
  cases t with
  | nil => exact absurd rfl h.1.1
  | cons a l => simp
theorem kidsW_cnt {f : Nd → StW → Option StW} : ∀ (l : List Nd) (p : List UInt8) (mark : UInt8) (s s' : StW), (∀ n ∈ l, ∀ s s', f n s = some s' → s.2 ≤ s.1.length → s'.2 ≤ s'.1.length) → s.2 ≤ s.1.length → kidsW f l p mark s = some s' → s'.2 ≤ s'.1.length
  | [], _, _, s, s', _, hs, h => by
    simp only [kidsW, Option.some.injEq] at h
    subst h
    simp
    omega
  | _ :: _, [], _, _, _, _, _, h => by simp [kidsW] at h
  | n :: l, p :: ps, mark, s, s', hf, hs, h => by
    unfold kidsW at h
    split at h
    · cases h
    · split at h
      · cases h
      · rename_i s2 h2
        exact kidsW_cnt l ps 44 s2 s' (fun m hm => hf m (List.mem_cons_of_mem _ hm)) (hf n (List.mem_cons_self ..) _ _ h2 (by simp; omega)) h
theorem wordW_cnt {f : Nd → StW → Option StW} {n : Nd} {s s' : StW} (hs : s.2 ≤ s.1.length + 1) (hf : ∀ k ∈ n.kids, ∀ s s', f k s = some s' → s.2 ≤ s.1.length → s'.2 ≤ s'.1.length) (h : wordW f n s = some s') : s'.2 ≤ s'.1.length := by
  unfold wordW at h
  cases hw : wdP n.op with
  | none => rw [hw] at h; cases h
  | some x =>
    obtain ⟨p, least⟩ := x
    have ho := wd_pos hw
    rw [hw] at h
    simp only [wordP] at h
    by_cases h1 : hasB p 101 = true
    · rw [if_pos h1] at h
      split at h
      · cases h
      · obtain ⟨s2, h2, h⟩ := Option.bind_eq_some_iff.1 h
        split at h
        · injection h with h
          subst h
          exact kidsW_cnt n.kids p 40 _ _ hf (by simp; omega) h2
        · cases h
    · rw [if_neg h1] at h
      by_cases h3 : hasB p 100 = true
      · rw [if_pos h3] at h
        split at h
        · cases h
        · split at h
          · injection h with h
            subst h
            simp
            omega
          · cases h
      · rw [if_neg h3] at h
        by_cases h4 : hasB p 116 = true
        · rw [if_pos h4] at h
          split at h
          · split at h
            · injection h with h
              subst h
              simp
              omega
            · cases h
          · cases h
        · rw [if_neg h4] at h
          split at h
          · injection h with h
            subst h
            simp
            omega
          · cases h
theorem termW_cnt : ∀ (r : Nat) (n : Nd) (s s' : StW), termW r n s = some s' → s.2 ≤ s.1.length → s'.2 ≤ s'.1.length
  | 0, n, s, s', h, _ => by simp [termW] at h
  | r + 1, n, s, s', h, hs => by
    unfold termW at h
    split at h
    · cases h
    · split at h
      · split at h
        · injection h with h
          subst h
          have := itoa_pos n.int
          simp
          omega
        · cases h
      · split at h
        · split at h
          · cases h
          · split at h
            · injection h with h
              subst h
              simp [quoS]
              omega
            · cases h
        · split at h
          · split at h
            · rename_i hn
              split at h
              · injection h with h
                subst h
                have := name_pos hn
                simp
                omega
              · cases h
            · cases h
          · exact wordW_cnt (by simp; omega) (fun k _ s s' hk' hs' => termW_cnt r k s s' hk' hs') h
end Go.Proofs.YtllnamhgnbdkmaaGreatDoor
namespace Go.Proofs.YtllnamhgnbdkmaaGreatDoor
open Go.RowKit

/-- A place that is read as one byte further if f says so of the byte there, and f says no of nothing. -/
theorem step_lo {α : Type} {l l' : List UInt8} {m : Nat} (f : UInt8 → Bool) (g : UInt8 → α) (z : α) (h0 : f 0 = false) : Lo l l' (if f (lkB l m) then (m + 1, g (lkB l m)) else (m, z)) (if f (lkB l' m) then (m + 1, g (lkB l' m)) else (m, z)) := by
  intro hs
  cases hf : f (lkB l m) with
  | true =>
    rw [hf] at hs
    simp only [if_pos] at hs ⊢
    have : lkB l' m = lkB l m := lk_same (hs m (by show m < m + 1; omega))
    rw [this, hf]
    exact ⟨fun _ => rfl, fun _ => rfl⟩
  | false =>
    simp only [Bool.false_eq_true, if_false]
    refine ⟨fun h => ?_, fun h => ?_⟩
    · have : lkB l' m = lkB l m := lk_same h
      rw [this, hf]; rfl
    · rw [lk_none h, h0]; rfl
theorem step_in {α : Type} {l : List UInt8} {m : Nat} (f : UInt8 → Bool) (y z : α) (h0 : f 0 = false) (hm : m ≤ l.length) : In l m (if f (lkB l m) then (m + 1, y) else (m, z)) := by
  cases hf : f (lkB l m) with
  | true =>
    have : m < l.length := lkB_lt (by intro e; rw [e, h0] at hf; cases hf)
    exact ⟨Nat.le_succ m, this⟩
  | false => exact ⟨Nat.le_refl m, hm⟩

theorem skipP_in {l : List UInt8} {m : Nat} (h : m ≤ l.length) : In l m (skip l m, ()) := skip_in h
theorem skipP_lo {l l' : List UInt8} {m : Nat} (hm : m ≤ l.length) : Lo l l' (skip l m, ()) (skip l' m, ()) := skip_lo _ m (Nat.le_refl _) hm

/-- Whatever is read behind blanks. -/
theorem behind_lo {β : Type} {l l' : List UInt8} {m : Nat} {g g' : Nat → Nat × Option β} (hm : m ≤ l.length) (hm' : m ≤ l'.length)
    (hg : ∀ k, k ≤ l.length → Lo l l' (g k) (g' k)) (hi : ∀ k, k ≤ l.length → In l k (g k)) (hi' : ∀ k, k ≤ l'.length → In l' k (g' k)) : Lo l l' (g (skip l m)) (g' (skip l' m)) := by
  have h1 : Lo l l' (skip l m, some ()) (skip l' m, some ()) := fun hs => by
    have := skipP_lo (l := l) (l' := l') hm hs
    exact ⟨fun h => by have := this.1 h; simp only [Prod.mk.injEq, and_true] at this ⊢; exact this, this.2⟩
  exact Lo.bind (q := (skip l m, some ())) (q' := (skip l' m, some ())) (g := fun k _ => g k) (g' := fun k _ => g' k) h1 (skip_in hm').2 (skip_in hm).2 (fun _ _ => hg _ (skip_in hm).2) (fun k _ h => hi k h) (fun k _ h => hi' k h)
theorem behind_in {β : Type} {l : List UInt8} {m : Nat} {g : Nat → Nat × Option β} (hm : m ≤ l.length) (hi : ∀ k, k ≤ l.length → In l k (g k)) : In l m (g (skip l m)) := by
  have h1 := skip_in hm
  have h2 := hi _ h1.2
  exact ⟨Nat.le_trans h1.1 h2.1, h2.2⟩

theorem mark_at (l : List UInt8) (m : Nat) (b : UInt8) : markR l m b = (fun k => if rdB l k b then (k + 1, some ()) else (k, none)) (skip l m) := rfl
theorem rd_lo {l l' : List UInt8} {k : Nat} {b : UInt8} (h0 : b ≠ 0) : Lo l l' (if rdB l k b then (k + 1, some ()) else (k, none)) (if rdB l' k b then (k + 1, some ()) else (k, none)) :=
  step_lo (fun x => decide (x = b)) (fun _ => some ()) none (by simp; exact fun e => h0 e.symm)
theorem rd_in {l : List UInt8} {k : Nat} {b : UInt8} (h0 : b ≠ 0) (hk : k ≤ l.length) : In l k (if rdB l k b then (k + 1, some ()) else (k, none)) :=
  step_in (fun x => decide (x = b)) (some ()) none (by simp; exact fun e => h0 e.symm) hk
theorem mark_lo {l l' : List UInt8} {m : Nat} {b : UInt8} (h0 : b ≠ 0) (hm : m ≤ l.length) (hm' : m ≤ l'.length) : Lo l l' (markR l m b) (markR l' m b) := by
  rw [mark_at, mark_at]
  exact behind_lo (g := fun k => if rdB l k b then (k + 1, some ()) else (k, none)) (g' := fun k => if rdB l' k b then (k + 1, some ()) else (k, none)) hm hm' (fun _ _ => rd_lo h0) (fun _ h => rd_in h0 h) (fun _ h => rd_in h0 h)
theorem mark_in {l : List UInt8} {m : Nat} {b : UInt8} (h0 : b ≠ 0) (hm : m ≤ l.length) : In l m (markR l m b) := by
  rw [mark_at]
  exact behind_in (g := fun k => if rdB l k b then (k + 1, some ()) else (k, none)) hm fun _ h => rd_in h0 h
theorem dig_lo {l l' : List UInt8} {m : Nat} : Lo l l' (digR l m) (digR l' m) := step_lo isDig (fun b => some ((b.toNat : Int) - 48)) none (by decide)
theorem dig_in {l : List UInt8} {m : Nat} (hm : m ≤ l.length) : In l m (digR l m) := step_in isDig _ none (by decide) hm

/-- Numbers. -/
theorem nm_in {l : List UInt8} {neg : Bool} : ∀ (f m n : Nat) (b : Bool), l.length - m ≤ f → m ≤ l.length → In l m (nmF l neg (l.length - m) m n b)
  | f, m, n, b, hf, hm => by
    rw [nm_on]
    split
    · rename_i hc
      have hd : isDig (lkB l m) = true := by simp at hc; exact hc.1
      have hlt : m < l.length := lkB_lt (by intro e; rw [e] at hd; exact absurd hd (by decide))
      match f, hf with
      | 0, hf => omega
      | f + 1, hf =>
        have := nm_in (l := l) (neg := neg) f (m + 1) (10 * n + (lkB l m - 48).toNat) true (by omega) (by omega)
        exact ⟨Nat.le_trans (Nat.le_succ m) this.1, this.2⟩
    · exact ⟨Nat.le_refl _, hm⟩
theorem nm_lo {l l' : List UInt8} {neg : Bool} : ∀ (f m n : Nat) (b : Bool), l.length - m ≤ f → m ≤ l.length → Lo l l' (nmF l neg (l.length - m) m n b) (nmF l' neg (l'.length - m) m n b)
  | f, m, n, b, hf, hm => by
    intro hs
    have hon := nm_on (l := l) (neg := neg) (m := m) (n := n) (begun := b)
    have hon' := nm_on (l := l') (neg := neg) (m := m) (n := n) (begun := b)
    cases hc : (isDig (lkB l m) && !barN neg n b (lkB l m - 48).toNat) with
    | true =>
      rw [hc] at hon
      simp only [if_true] at hon
      have hd : isDig (lkB l m) = true := by simp at hc; exact hc.1
      have hlt : m < l.length := lkB_lt (by intro e; rw [e] at hd; exact absurd hd (by decide))
      match f, hf with
      | 0, hf => omega
      | f + 1, hf =>
        have hin := nm_in (l := l) (neg := neg) f (m + 1) (10 * n + (lkB l m - 48).toNat) true (by omega) (by omega)
        rw [hon] at hs ⊢
        have hb : lkB l' m = lkB l m := lk_same (hs m (by have := hin.1; omega))
        rw [hb, hc] at hon'
        simp only [if_true] at hon'
        rw [hon']
        exact nm_lo f (m + 1) _ true (by omega) (by omega) hs
    | false =>
      rw [hc] at hon
      simp only [Bool.false_eq_true, if_false] at hon
      rw [hon]
      refine ⟨fun h => ?_, fun h => ?_⟩
      · rw [lk_same h, hc] at hon'
        simp only [Bool.false_eq_true, if_false] at hon'
        exact hon'
      · rw [lk_none h, show (isDig 0 && !barN neg n b ((0 : UInt8) - 48).toNat) = false by rw [show isDig 0 = false by decide, Bool.false_and]] at hon'
        simp only [Bool.false_eq_true, if_false] at hon'
        rw [hon']

theorem nx_in {l : List UInt8} {m : Nat} (hm : m ≤ l.length) : m ≤ nx (rdB l m 45) m ∧ nx (rdB l m 45) m ≤ l.length := by
  unfold nx
  cases h : rdB l m 45 with
  | true =>
    have : m < l.length := lkB_lt (by unfold rdB at h; rw [of_decide_eq_true h]; decide)
    exact ⟨Nat.le_succ m, this⟩
  | false => exact ⟨Nat.le_refl _, hm⟩
theorem num_in {l : List UInt8} {m : Nat} (hm : m ≤ l.length) : In l m (numN l m) := by
  have h1 := nx_in hm
  have h2 := nm_in (l := l) (neg := rdB l m 45) _ (nx (rdB l m 45) m) 0 false (Nat.le_refl _) h1.2
  exact ⟨Nat.le_trans h1.1 h2.1, h2.2⟩
theorem num_lo {l l' : List UInt8} {m : Nat} (hm : m ≤ l.length) (hm' : m ≤ l'.length) : Lo l l' (numN l m) (numN l' m) := by
  intro hs
  have h1 := nx_in hm
  have h2 := nm_in (l := l) (neg := rdB l m 45) _ (nx (rdB l m 45) m) 0 false (Nat.le_refl _) h1.2
  have hp : (numN l m).1 = (numS l m).1 := rfl
  have key : lkB l' m = lkB l m → Lo l l' (numS l m) (numS l' m) := fun hb => by
    have hr : rdB l' m 45 = rdB l m 45 := by unfold rdB; rw [hb]
    unfold numS
    rw [hr]
    exact nm_lo _ _ 0 false (Nat.le_refl _) h1.2
  have fin : lkB l' m = lkB l m → (l'[(numN l m).1]? = l[(numN l m).1]? → numN l' m = numN l m) ∧ (l'[(numN l m).1]? = none → (numN l' m).1 = (numN l m).1) := fun hb => by
    have hr : rdB l' m 45 = rdB l m 45 := by unfold rdB; rw [hb]
    have := key hb hs
    refine ⟨fun h => ?_, fun h => this.2 h⟩
    unfold numN
    rw [this.1 h, hr]
  rcases Nat.lt_or_ge m (numN l m).1 with hlt | hge
  · exact fin (lk_same (hs m hlt))
  · have he : (numN l m).1 = m := by have : m ≤ (numN l m).1 := Nat.le_trans h1.1 h2.1; omega
    refine ⟨fun h => ?_, fun h => ?_⟩
    · rw [he] at h
      exact (fin (lk_same h)).1 (by rw [he]; exact h)
    · rw [he] at h ⊢
      have hl := none_le h
      have := num_in (l := l') (m := m) hm'
      have h3 := this.1
      have h4 := this.2
      omega
end Go.Proofs.YtllnamhgnbdkmaaGreatDoor

namespace Go.Proofs.YtllnamhgnbdkmaaGreatDoor
open Go.RowKit

theorem hex_zero : hexI 0 = none := by decide
/-- One byte further, with what f tells of the byte there. -/
def opF {α : Type} (f : UInt8 → Option α) (l : List UInt8) (m : Nat) : Nat × Option α := match f (lkB l m) with
  | some x => (m + 1, some x)
  | none => (m, none)
theorem opF_some {α : Type} {f : UInt8 → Option α} {l : List UInt8} {m : Nat} {x : α} (h : f (lkB l m) = some x) : opF f l m = (m + 1, some x) := by unfold opF; rw [h]
theorem opF_none {α : Type} {f : UInt8 → Option α} {l : List UInt8} {m : Nat} (h : f (lkB l m) = none) : opF f l m = (m, none) := by unfold opF; rw [h]
/-- One byte further where f tells something of the byte there, and f tells nothing of nothing. -/
theorem opt_lo {α : Type} {l l' : List UInt8} {m : Nat} (f : UInt8 → Option α) (h0 : f 0 = none) : Lo l l' (opF f l m) (opF f l' m) := by
  intro hs
  cases hf : f (lkB l m) with
  | some x =>
    rw [opF_some hf] at hs ⊢
    have : lkB l' m = lkB l m := lk_same (hs m (by show m < m + 1; omega))
    rw [← this] at hf
    rw [opF_some hf]
    exact ⟨fun _ => rfl, fun _ => rfl⟩
  | none =>
    rw [opF_none hf]
    refine ⟨fun h => ?_, fun h => ?_⟩
    · rw [← lk_same h] at hf
      exact opF_none hf
    · rw [opF_none (by rw [lk_none h]; exact h0)]
theorem opt_in {α : Type} {l : List UInt8} {m : Nat} (f : UInt8 → Option α) (h0 : f 0 = none) (hm : m ≤ l.length) : In l m (opF f l m) := by
  cases hf : f (lkB l m) with
  | some x =>
    have : m < l.length := lkB_lt (by intro e; rw [e, h0] at hf; cases hf)
    rw [opF_some hf]
    exact ⟨Nat.le_succ m, this⟩
  | none =>
    rw [opF_none hf]
    exact ⟨Nat.le_refl m, hm⟩
def highF (b : UInt8) : Option Nat := match hexI b with | some h => if smC h then some h else none | none => none
def lowF (h : Nat) (b : UInt8) : Option UInt8 := match hexI b with | some x => if isPl (UInt8.ofNat (16 * h + x)) then none else some (UInt8.ofNat (16 * h + x)) | none => none
theorem cod_two (l : List UInt8) (m : Nat) : codS l m = bindP (opF highF l m) fun k h => opF (lowF h) l k := by
  unfold codS
  cases h1 : hexI (lkB l m) with
  | none => rw [opF_none (by unfold highF; rw [h1])]; rfl
  | some h =>
    simp only
    cases h2 : smC h with
    | false => rw [opF_none (by unfold highF; rw [h1]; simp only [h2]; rfl)]; rfl
    | true =>
      rw [opF_some (x := h) (by unfold highF; rw [h1]; simp only [h2]; rfl)]
      simp only [if_true, bindP]
      cases h3 : hexI (lkB l (m + 1)) with
      | none => rw [opF_none (by unfold lowF; rw [h3])]
      | some x =>
        simp only
        cases h4 : isPl (UInt8.ofNat (16 * h + x)) with
        | true => rw [opF_none (by unfold lowF; rw [h3]; simp only [h4]; rfl)]; rfl
        | false => rw [opF_some (x := UInt8.ofNat (16 * h + x)) (by unfold lowF; rw [h3]; simp only [h4]; rfl)]; rfl
theorem high_zero : highF 0 = none := by decide
theorem low_zero (h : Nat) : lowF h 0 = none := by unfold lowF; rw [hex_zero]
theorem cod_in {l : List UInt8} {m : Nat} (hm : m ≤ l.length) : In l m (codS l m) := by
  rw [cod_two]
  exact In.bind (opt_in highF high_zero hm) fun k h hk => opt_in (lowF h) (low_zero h) hk
theorem cod_lo {l l' : List UInt8} {m : Nat} (hm : m ≤ l.length) (hm' : m ≤ l'.length) : Lo l l' (codS l m) (codS l' m) := by
  rw [cod_two, cod_two]
  exact Lo.bind (opt_lo highF high_zero) (opt_in highF high_zero hm').2 (opt_in highF high_zero hm).2 (fun h _ => opt_lo (lowF h) (low_zero h)) (fun k h hk => opt_in (lowF h) (low_zero h) hk) (fun k h hk => opt_in (lowF h) (low_zero h) hk)

theorem let_in {l : List UInt8} {m : Nat} (hm : m ≤ l.length) : In l m (letS l m) := by
  unfold letS
  split
  · rename_i h
    have hlt : m < l.length := lkB_lt (by rw [h]; decide)
    have := cod_in (l := l) (m := m + 1) hlt
    exact ⟨Nat.le_trans (Nat.le_succ m) this.1, this.2⟩
  · exact step_in isPl (some (lkB l m)) none (by decide) hm
theorem let_more {l : List UInt8} {m m' : Nat} {b : UInt8} (h : letS l m = (m', some b)) (_hm : m ≤ l.length) : m < m' := by
  unfold letS at h
  split at h
  · rename_i h92
    have hlt : m < l.length := lkB_lt (by rw [h92]; decide)
    have := (cod_in (l := l) (m := m + 1) hlt).1
    rw [h] at this
    omega
  · split at h
    · injection h with h1 h2; omega
    · injection h with h1 h2; cases h2
theorem let_lo {l l' : List UInt8} {m : Nat} (hm : m ≤ l.length) (hm' : m ≤ l'.length) : Lo l l' (letS l m) (letS l' m) := by
  intro hs
  have hin := let_in (l := l) hm
  have hin' := let_in (l := l') hm'
  have key : lkB l' m = lkB l m → (l'[(letS l m).1]? = l[(letS l m).1]? → letS l' m = letS l m) ∧ (l'[(letS l m).1]? = none → (letS l' m).1 = (letS l m).1) := fun hb => by
    by_cases h92 : lkB l m = 92
    · have e1 : letS l m = codS l (m + 1) := by unfold letS; rw [if_pos h92]
      have e2 : letS l' m = codS l' (m + 1) := by unfold letS; rw [hb, if_pos h92]
      have hlt : m < l.length := lkB_lt (by rw [h92]; decide)
      have hlt' : m < l'.length := lkB_lt (by rw [hb, h92]; decide)
      rw [e1, e2]
      rw [e1] at hs
      exact cod_lo hlt hlt' hs
    · have e1 : letS l m = (if isPl (lkB l m) then (m + 1, some (lkB l m)) else (m, none)) := by unfold letS; rw [if_neg h92]
      have e2 : letS l' m = (if isPl (lkB l' m) then (m + 1, some (lkB l' m)) else (m, none)) := by unfold letS; rw [if_neg (by rw [hb]; exact h92)]
      rw [e1, e2]
      rw [e1] at hs
      exact step_lo isPl (fun b => some b) none (by decide) hs
  rcases Nat.lt_or_ge m (letS l m).1 with hlt | hge
  · exact key (lk_same (hs m hlt))
  · have he : (letS l m).1 = m := by have := hin.1; omega
    refine ⟨fun h => ?_, fun h => ?_⟩
    · rw [he] at h
      exact (key (lk_same h)).1 (by rw [he]; exact h)
    · rw [he] at h ⊢
      have hl := none_le h
      have h3 := hin'.1
      have h4 := hin'.2
      omega

theorem str_at (l : List UInt8) (f : Nat) (acc : List UInt8) (m : Nat) (hf : acc.length < 256) : strF l (f + 1) acc m = (if lkB l m = 34 then (m + 1, some acc) else bindP (letS l m) fun m' b => strF l f (acc ++ [b]) m') := by
  simp only [strF, bindP, if_pos hf]
  split
  · rfl
  · cases letS l m with
    | mk m' o => cases o <;> rfl
theorem str_full (l : List UInt8) (f : Nat) (acc : List UInt8) (m : Nat) (hf : ¬ acc.length < 256) : strF l (f + 1) acc m = (if decide (lkB l m = 34) then (m + 1, some acc) else (m, none)) := by
  simp only [strF, if_neg hf, decide_eq_true_eq]
theorem str_in {l : List UInt8} : ∀ (f : Nat) (acc : List UInt8) (m : Nat), m ≤ l.length → In l m (strF l f acc m)
  | 0, acc, m, hm => ⟨Nat.le_refl m, hm⟩
  | f + 1, acc, m, hm => by
    by_cases hf : acc.length < 256
    · rw [str_at l f acc m hf]
      split
      · rename_i h
        have hlt : m < l.length := lkB_lt (by rw [h]; decide)
        exact ⟨Nat.le_succ m, hlt⟩
      · exact In.bind (let_in hm) fun k b hk => str_in f (acc ++ [b]) k hk
    · rw [str_full l f acc m hf]
      exact step_in (fun b => decide (b = 34)) (some acc) none (by decide) hm
theorem str_lo {l l' : List UInt8} : ∀ (f : Nat) (acc : List UInt8) (m : Nat), m ≤ l.length → m ≤ l'.length → Lo l l' (strF l f acc m) (strF l' f acc m)
  | 0, acc, m, hm, hm' => Lo.done fun _ => rfl
  | f + 1, acc, m, hm, hm' => by
    by_cases hf : acc.length < 256
    · intro hs
      have hin := str_in (f + 1) acc m hm
      have hin' := str_in (f + 1) acc m hm'
      have key : lkB l' m = lkB l m → (l'[(strF l (f + 1) acc m).1]? = l[(strF l (f + 1) acc m).1]? → strF l' (f + 1) acc m = strF l (f + 1) acc m) ∧ (l'[(strF l (f + 1) acc m).1]? = none → (strF l' (f + 1) acc m).1 = (strF l (f + 1) acc m).1) := fun hb => by
        have e1 := str_at l f acc m hf
        have e2 := str_at l' f acc m hf
        by_cases h34 : lkB l m = 34
        · rw [if_pos h34] at e1
          rw [hb, if_pos h34] at e2
          rw [e1, e2]
          exact ⟨fun _ => rfl, fun _ => rfl⟩
        · rw [if_neg h34] at e1
          rw [hb, if_neg h34] at e2
          rw [e1, e2]
          rw [e1] at hs
          exact Lo.bind (let_lo hm hm') (let_in hm').2 (let_in hm).2 (fun b hb => by
            have h2 : (letS l m).1 ≤ l'.length ∨ l'.length < (letS l m).1 := by omega
            intro hs2
            rcases h2 with h2 | h2
            · exact str_lo f (acc ++ [b]) (letS l m).1 (let_in hm).2 h2 hs2
            · -- l' ends ahead of the place: not so, it is the same up to there
              have hlt : (letS l m).1 - 1 < (strF l f (acc ++ [b]) (letS l m).1).1 := by
                have := (str_in (l := l) f (acc ++ [b]) (letS l m).1 (let_in hm).2).1
                omega
              have h5 := hs2 ((letS l m).1 - 1) hlt
              have h6 : l'[(letS l m).1 - 1]? = none := List.getElem?_eq_none_iff.2 (by omega)
              rw [h6] at h5
              have h7 := none_le h5.symm
              have h8 := (let_in (l := l) hm).2
              omega) (fun k b hk => str_in f (acc ++ [b]) k hk) (fun k b hk => str_in f (acc ++ [b]) k hk) hs
      rcases Nat.lt_or_ge m (strF l (f + 1) acc m).1 with hlt | hge
      · exact key (lk_same (hs m hlt))
      · have he : (strF l (f + 1) acc m).1 = m := by have := hin.1; omega
        refine ⟨fun h => ?_, fun h => ?_⟩
        · rw [he] at h
          exact (key (lk_same h)).1 (by rw [he]; exact h)
        · rw [he] at h ⊢
          have hl := none_le h
          have h3 := hin'.1
          have h4 := hin'.2
          omega
    · rw [str_full l f acc m hf, str_full l' f acc m hf]
      exact step_lo (fun b => decide (b = 34)) (fun _ => some acc) none (by decide)
end Go.Proofs.YtllnamhgnbdkmaaGreatDoor

namespace Go.Proofs.YtllnamhgnbdkmaaGreatDoor
open Go.RowKit

theorem Lo.far {α : Type} {l l' : List UInt8} {p p' : Nat × α} (h : l'.length < p.1) (hp : p.1 ≤ l.length) : Lo l l' p p' := fun hs => by
  have h1 := hs l'.length h
  rw [List.getElem?_eq_none_iff.2 (Nat.le_refl _)] at h1
  have := none_le h1.symm
  omega
theorem lo_any {α : Type} {l l' : List UInt8} {m : Nat} {p p' : Nat × α} (hi : In l m p) (h : m ≤ l'.length → Lo l l' p p') : Lo l l' p p' := by
  rcases Nat.lt_or_ge l'.length m with h' | h'
  · exact Lo.far (Nat.lt_of_lt_of_le h' hi.1) hi.2
  · exact h h'
theorem lo_first {α : Type} {l l' : List UInt8} {m : Nat} {p p' : Nat × α} (hi : In l m p) (hi' : In l' m p') (key : lkB l' m = lkB l m → Lo l l' p p') : Lo l l' p p' := by
  intro hs
  rcases Nat.lt_or_ge m p.1 with hlt | hge
  · exact key (lk_same (hs m hlt)) hs
  · have he : p.1 = m := by have := hi.1; omega
    refine ⟨fun h => ?_, fun h => ?_⟩
    · have h2 := h
      rw [he] at h2
      exact (key (lk_same h2) hs).1 h
    · rw [he] at h
      have hl := none_le h
      have h3 := hi'.1
      have h4 := hi'.2
      omega

/-- Where the byte is there it is done, else it goes on with g. -/
def elseP {α β γ : Type} (q : Nat × Option α) (y : γ) (g : Nat → Nat × Option γ) (_ : β) : Nat × Option γ := match q with
  | (m, some _) => (m, some y)
  | (m, none) => g m
theorem else_in {α γ : Type} {l : List UInt8} {m : Nat} {q : Nat × Option α} {y : γ} {g : Nat → Nat × Option γ} (hq : In l m q) (hg : ∀ k, k ≤ l.length → In l k (g k)) : In l m (elseP q y g ()) := by
  match q, hq with
  | (k, some x), hq => exact hq
  | (k, none), hq =>
    have := hg k hq.2
    exact ⟨Nat.le_trans hq.1 this.1, this.2⟩
theorem else_lo {α γ : Type} {l l' : List UInt8} {q q' : Nat × Option α} {y : γ} {g g' : Nat → Nat × Option γ} (hq : Lo l l' q q') (hq' : q'.1 ≤ l'.length) (hql : q.1 ≤ l.length)
    (hg : Lo l l' (g q.1) (g' q.1)) (hi : ∀ k, k ≤ l.length → In l k (g k)) (hi' : ∀ k, k ≤ l'.length → In l' k (g' k)) : Lo l l' (elseP q y g ()) (elseP q' y g' ()) := by
  intro hs
  have hle : q.1 ≤ (elseP q y g ()).1 := by
    match q, hql with
    | (k, some x), _ => exact Nat.le_refl _
    | (k, none), hql => exact (hi k hql).1
  have hq0 := hq fun j hj => hs j (Nat.lt_of_lt_of_le hj hle)
  by_cases hsame : l'[q.1]? = l[q.1]?
  · have he := hq0.1 hsame
    subst he
    match q', hg, hs with
    | (k, some x), _, _ => exact ⟨fun _ => rfl, fun _ => rfl⟩
    | (k, none), hg, hs => exact hg hs
  · have hpe : (elseP q y g ()).1 = q.1 := by
      rcases Nat.lt_or_ge q.1 (elseP q y g ()).1 with h | h
      · exact absurd (hs _ h) hsame
      · omega
    rw [hpe]
    refine ⟨fun h => absurd h hsame, fun h => ?_⟩
    have he := hq0.2 h
    have hl := none_le h
    match q', he, hq' with
    | (k, some x), he, _ => exact he
    | (k, none), he, hq' =>
      have := hi' k hq'
      have h1 := this.1
      have h2 := this.2
      have he' : k = q.1 := he
      show (g' k).1 = q.1
      omega

/-- Names. -/
def nmC (n : Nat) : Option UInt8 → Bool
  | none => false
  | some b => isLet b || (decide (0 < n) && (isDig b || decide (b = 95)))
theorem nl_step (x : List UInt8) (f n : Nat) : nlF x (f + 1) n = if nmC n x[n]? then nlF x f (n + 1) else n := by
  rw [show nlF x (f + 1) n = (if n < x.length ∧ (isLet (lkB x n) || (decide (0 < n) && (isDig (lkB x n) || decide (lkB x n = 95)))) = true then nlF x f (n + 1) else n) from rfl]
  rcases Nat.lt_or_ge n x.length with h | h
  · have hx := List.getElem?_eq_getElem h
    have hl : lkB x n = x[n] := lkB_at h
    rw [hx, hl]
    simp only [nmC, h, true_and]
    exact ite_congr rfl (fun _ => rfl) (fun _ => rfl)
  · have hx := List.getElem?_eq_none_iff.2 h
    rw [hx, if_neg (by omega)]
    rfl
theorem nl_same {x x' : List UInt8} : ∀ (f n : Nat), n ≤ x.length → (∀ j, j < nlF x f n → x'[j]? = x[j]?) → (x'[nlF x f n]? = x[nlF x f n]? ∨ x'[nlF x f n]? = none) → nlF x' f n = nlF x f n
  | 0, n, _, _, _ => rfl
  | f + 1, n, hn, hs, he => by
    rw [nl_step] at hs he ⊢
    rw [nl_step]
    cases hc : nmC n x[n]? with
    | true =>
      rw [hc] at hs he
      simp only [if_true] at hs he ⊢
      have hlt : n < x.length := by
        rcases Nat.lt_or_ge n x.length with h | h
        · exact h
        · rw [List.getElem?_eq_none_iff.2 h] at hc; cases hc
      have hge := (nlF_le x f (n + 1) (by omega)).1
      rw [hs n (by omega), hc]
      simp only [if_true]
      exact nl_same f (n + 1) (by omega) hs he
    | false =>
      rw [hc] at hs he
      simp only [Bool.false_eq_true, if_false] at hs he ⊢
      rcases he with he | he
      · rw [he, hc]; rfl
      · rw [he]; rfl
theorem spel_len (l : List UInt8) (m : Nat) : (spel l m).length = nmL (l.drop m) := by
  unfold spel
  rw [List.length_take]
  have := (nmL_le (l.drop m)).1
  omega
theorem spel_in {l : List UInt8} {m : Nat} (hm : m ≤ l.length) : m + (spel l m).length ≤ l.length := by
  rw [spel_len]
  have := (nmL_le (l.drop m)).1
  rw [List.length_drop] at this
  omega
theorem spel_same {l l' : List UInt8} {m : Nat} (hs : ∀ j, j < m + (spel l m).length → l'[j]? = l[j]?) (he : l'[m + (spel l m).length]? = l[m + (spel l m).length]? ∨ l'[m + (spel l m).length]? = none) : spel l' m = spel l m := by
  rw [spel_len] at hs he
  have hk : nmL (l'.drop m) = nmL (l.drop m) := by
    unfold nmL at hs he ⊢
    refine nl_same 16 0 (Nat.zero_le _) (fun j hj => ?_) ?_
    · rw [List.getElem?_drop, List.getElem?_drop]; exact hs _ (by omega)
    · rw [List.getElem?_drop, List.getElem?_drop]; exact he
  unfold spel
  rw [hk]
  apply List.ext_getElem?
  intro j
  rw [List.getElem?_take, List.getElem?_take]
  split
  · rw [List.getElem?_drop, List.getElem?_drop]; exact hs _ (by omega)
  · rfl
theorem name_in {l : List UInt8} {m : Nat} (hm : m ≤ l.length) : In l m (nameR l m) := ⟨Nat.le_add_right _ _, spel_in hm⟩
theorem name_lo {l l' : List UInt8} {m : Nat} : Lo l l' (nameR l m) (nameR l' m) := by
  intro hs
  refine ⟨fun h => ?_, fun h => ?_⟩
  · have := spel_same hs (.inl h)
    unfold nameR
    rw [this]
  · have := spel_same hs (.inr h)
    show m + (spel l' m).length = m + (spel l m).length
    rw [this]

/-- What is asked of layer 2's answer. -/
structure KpOk (kp : List UInt8 → Nat × Option Ty) : Prop where
  le : ∀ x k, kp x = (k, none) → k ≤ x.length
  agree : ∀ x x' k, kp x = (k, none) → (∀ j, j ≤ k → x'[j]? = x[j]?) → kp x' = (k, none)
  trunc : ∀ x k, kp x = (k, none) → (∃ i t, kp (x.take k) = (i, some t)) ∨ kp (x.take k) = (k, none)

theorem typ_in {kp : List UInt8 → Nat × Option Ty} (K : KpOk kp) {l : List UInt8} {m : Nat} (hm : m ≤ l.length) : In l m (typR kp l m) := by
  unfold typR
  cases hk : kp (l.drop m) with
  | mk k o =>
  cases o with
  | some t => exact ⟨hm, Nat.le_refl _⟩
  | none =>
    have := K.le _ _ hk
    rw [List.length_drop] at this
    exact ⟨Nat.le_add_right _ _, by show m + k ≤ l.length; omega⟩
theorem typ_lo {kp : List UInt8 → Nat × Option Ty} (K : KpOk kp) {l l' : List UInt8} {m : Nat} (hm : m ≤ l.length) : Lo l l' (typR kp l m) (typR kp l' m) := by
  intro hs
  cases hk : kp (l.drop m) with
  | mk k o =>
  cases o with
  | some t =>
    have e1 : typR kp l m = (l.length, some t) := by unfold typR; rw [hk]
    rw [e1] at hs ⊢
    have key : l'[l.length]? = none → l' = l := fun h => by
      apply List.ext_getElem?
      intro j
      rcases Nat.lt_or_ge j l.length with hj | hj
      · exact hs j hj
      · rw [List.getElem?_eq_none_iff.2 hj, List.getElem?_eq_none_iff.2 (Nat.le_trans (none_le h) hj)]
    refine ⟨fun h => ?_, fun h => ?_⟩
    · rw [key (by rw [h]; exact List.getElem?_eq_none_iff.2 (Nat.le_refl _)), e1]
    · rw [key h, e1]
  | none =>
    have hkl := K.le _ _ hk
    rw [List.length_drop] at hkl
    have e1 : typR kp l m = (m + k, (kp ((l.drop m).take k)).2) := by unfold typR; rw [hk]
    rw [e1] at hs ⊢
    have htake : (l'.drop m).take k = (l.drop m).take k := by
      apply List.ext_getElem?
      intro j
      rw [List.getElem?_take, List.getElem?_take]
      split
      · rw [List.getElem?_drop, List.getElem?_drop]; exact hs _ (by show m + j < m + k; omega)
      · rfl
    refine ⟨fun h => ?_, fun h => ?_⟩
    · have hk' := K.agree _ (l'.drop m) _ hk fun j hj => by
        rw [List.getElem?_drop, List.getElem?_drop]
        rcases Nat.lt_or_ge j k with h1 | h1
        · exact hs _ (by show m + j < m + k; omega)
        · rw [show j = k by omega]; exact h
      unfold typR
      rw [hk']
      show (m + k, (kp ((l'.drop m).take k)).2) = _
      rw [htake]
    · have hl1 := none_le h
      have hl2 : m + k ≤ l'.length := by
        rcases Nat.lt_or_ge l'.length (m + k) with h1 | h1
        · have h2 := hs l'.length h1
          rw [List.getElem?_eq_none_iff.2 (Nat.le_refl _)] at h2
          have := none_le h2.symm
          omega
        · exact h1
      have hy : l'.drop m = (l.drop m).take k := by
        rw [← htake, List.take_of_length_le]
        rw [List.length_drop]
        have hl1' : l'.length ≤ m + k := hl1
        omega
      unfold typR
      rw [hy]
      rcases K.trunc _ _ hk with ⟨i, t, ht⟩ | ht
      · rw [ht]
        show l'.length = m + k
        have hl1' : l'.length ≤ m + k := hl1
        omega
      · rw [ht]
end Go.Proofs.YtllnamhgnbdkmaaGreatDoor

namespace Go.Proofs.YtllnamhgnbdkmaaGreatDoor
open Go.RowKit

/-- What is read and then laid into a term. -/
theorem map_in {α β : Type} {l : List UInt8} {m : Nat} {q : Nat × Option α} (h : α → β) (hq : In l m q) : In l m (bindP q fun m' x => (m', some (h x))) := by
  match q, hq with
  | (k, none), hq => exact hq
  | (k, some x), hq => exact hq
theorem map_lo {α β : Type} {l l' : List UInt8} {q q' : Nat × Option α} (h : α → β) (hq : Lo l l' q q') : Lo l l' (bindP q fun m' x => (m', some (h x))) (bindP q' fun m' x => (m', some (h x))) := by
  intro hs
  have hp : ∀ q : Nat × Option α, (bindP q fun m' x => (m', some (h x))).1 = q.1 := fun q => by
    match q with
    | (k, none) => rfl
    | (k, some x) => rfl
  rw [hp] at hs ⊢
  rw [hp]
  have := hq hs
  exact ⟨fun e => by rw [this.1 e], this.2⟩

section
variable {kp : List UInt8 → Nat × Option Ty} (K : KpOk kp)
include K

theorem part_in {f : Nat → Nat × Option Nd} {l : List UInt8} (hf : ∀ k, k ≤ l.length → In l k (f k)) (p : UInt8) {m : Nat} (nd : Nd) (hm : m ≤ l.length) : In l m (partR kp f l p m nd) := by
  unfold partR
  split
  · exact behind_in (g := fun k => bindP (digR l k) fun m' i => (m', some (Nd.mk nd.op i nd.text nd.ty nd.kids))) hm fun k hk => map_in _ (dig_in hk)
  split
  · exact behind_in (g := fun k => bindP (typR kp l k) fun m' t => (m', some (Nd.mk nd.op nd.int nd.text t nd.kids))) hm fun k hk => map_in _ (typ_in K hk)
  split
  · exact behind_in (g := fun k => bindP (nameR l k) fun m' x => (m', some (Nd.mk nd.op nd.int nd.text nd.ty (nd.kids ++ [x])))) hm fun k hk => map_in _ (name_in hk)
  · exact behind_in (g := fun k => bindP (f k) fun m' x => (m', some (Nd.mk nd.op nd.int nd.text nd.ty (nd.kids ++ [x])))) hm fun k hk => map_in _ (hf k hk)
theorem part_lo {f f' : Nat → Nat × Option Nd} {l l' : List UInt8} (hf : ∀ k, k ≤ l.length → In l k (f k)) (hf' : ∀ k, k ≤ l'.length → In l' k (f' k)) (hff : ∀ k, k ≤ l.length → k ≤ l'.length → Lo l l' (f k) (f' k))
    (p : UInt8) {m : Nat} (nd : Nd) (hm : m ≤ l.length) (hm' : m ≤ l'.length) : Lo l l' (partR kp f l p m nd) (partR kp f' l' p m nd) := by
  unfold partR
  by_cases h1 : p = 100
  · rw [if_pos h1, if_pos h1]
    exact behind_lo (g := fun k => bindP (digR l k) fun m' i => (m', some (Nd.mk nd.op i nd.text nd.ty nd.kids))) (g' := fun k => bindP (digR l' k) fun m' i => (m', some (Nd.mk nd.op i nd.text nd.ty nd.kids))) hm hm' (fun k hk => map_lo _ dig_lo) (fun k hk => map_in _ (dig_in hk)) (fun k hk => map_in _ (dig_in hk))
  rw [if_neg h1, if_neg h1]
  by_cases h2 : p = 116
  · rw [if_pos h2, if_pos h2]
    exact behind_lo (g := fun k => bindP (typR kp l k) fun m' t => (m', some (Nd.mk nd.op nd.int nd.text t nd.kids))) (g' := fun k => bindP (typR kp l' k) fun m' t => (m', some (Nd.mk nd.op nd.int nd.text t nd.kids))) hm hm' (fun k hk => map_lo _ (typ_lo K hk)) (fun k hk => map_in _ (typ_in K hk)) (fun k hk => map_in _ (typ_in K hk))
  rw [if_neg h2, if_neg h2]
  by_cases h3 : p = 110
  · rw [if_pos h3, if_pos h3]
    exact behind_lo (g := fun k => bindP (nameR l k) fun m' x => (m', some (Nd.mk nd.op nd.int nd.text nd.ty (nd.kids ++ [x])))) (g' := fun k => bindP (nameR l' k) fun m' x => (m', some (Nd.mk nd.op nd.int nd.text nd.ty (nd.kids ++ [x])))) hm hm' (fun k hk => map_lo _ name_lo) (fun k hk => map_in _ (name_in hk)) (fun k hk => map_in _ (name_in hk))
  rw [if_neg h3, if_neg h3]
  exact behind_lo (g := fun k => bindP (f k) fun m' x => (m', some (Nd.mk nd.op nd.int nd.text nd.ty (nd.kids ++ [x])))) (g' := fun k => bindP (f' k) fun m' x => (m', some (Nd.mk nd.op nd.int nd.text nd.ty (nd.kids ++ [x])))) hm hm' (fun k hk => map_lo _ (lo_any (hf k hk) (hff k hk))) (fun k hk => map_in _ (hf k hk)) (fun k hk => map_in _ (hf' k hk))

omit K in
theorem parts_at (f : Nat → Nat × Option Nd) (l : List UInt8) (least : Nat) (p : UInt8) (ps : List UInt8) (i : Nat) (mark : UInt8) (m : Nat) (nd : Nd) :
    partsR kp f l least (p :: ps) i mark m nd = bindP (markR l m mark) fun m1 _ => bindP (partR kp f l p m1 nd) fun m2 nd' =>
      if least ≤ i + 1 then elseP (markR l m2 41) nd' (fun m3 => partsR kp f l least ps (i + 1) 44 m3 nd') () else partsR kp f l least ps (i + 1) 44 m2 nd' := by
  simp only [partsR, bindP, elseP]
  cases markR l m mark with
  | mk k o =>
  cases o with
  | none => rfl
  | some u =>
    simp only
    cases partR kp f l p k nd with
    | mk k2 o2 =>
    cases o2 with
    | none => rfl
    | some nd' =>
      simp only
      split
      · cases markR l k2 41 with
        | mk k3 o3 => cases o3 <;> rfl
      · rfl
theorem parts_in {f : Nat → Nat × Option Nd} {l : List UInt8} (hf : ∀ k, k ≤ l.length → In l k (f k)) (least : Nat) : ∀ (ps : List UInt8) (i : Nat) (mark : UInt8) (m : Nat) (nd : Nd), mark ≠ 0 → m ≤ l.length → In l m (partsR kp f l least ps i mark m nd)
  | [], i, mark, m, nd, _, hm => ⟨Nat.le_refl m, hm⟩
  | p :: ps, i, mark, m, nd, h0, hm => by
    rw [parts_at]
    refine In.bind (mark_in h0 hm) fun m1 _ h1 => In.bind (part_in K hf p nd h1) fun m2 nd' h2 => ?_
    split
    · exact else_in (mark_in (by decide) h2) fun k hk => parts_in hf least ps (i + 1) 44 k nd' (by decide) hk
    · exact parts_in hf least ps (i + 1) 44 m2 nd' (by decide) h2
theorem parts_lo {f f' : Nat → Nat × Option Nd} {l l' : List UInt8} (hf : ∀ k, k ≤ l.length → In l k (f k)) (hf' : ∀ k, k ≤ l'.length → In l' k (f' k)) (hff : ∀ k, k ≤ l.length → k ≤ l'.length → Lo l l' (f k) (f' k)) (least : Nat) :
    ∀ (ps : List UInt8) (i : Nat) (mark : UInt8) (m : Nat) (nd : Nd), mark ≠ 0 → m ≤ l.length → m ≤ l'.length → Lo l l' (partsR kp f l least ps i mark m nd) (partsR kp f' l' least ps i mark m nd)
  | [], i, mark, m, nd, _, _, _ => Lo.done fun _ => rfl
  | p :: ps, i, mark, m, nd, h0, hm, hm' => by
    rw [parts_at, parts_at]
    have rest : ∀ k nd', k ≤ l.length → Lo l l' (partsR kp f l least ps (i + 1) 44 k nd') (partsR kp f' l' least ps (i + 1) 44 k nd') := fun k nd' hk =>
      lo_any (parts_in K hf least ps (i + 1) 44 k nd' (by decide) hk) fun hk' => parts_lo hf hf' hff least ps (i + 1) 44 k nd' (by decide) hk hk'
    have tail_in : ∀ k nd', k ≤ l.length → In l k (if least ≤ i + 1 then elseP (markR l k 41) nd' (fun m3 => partsR kp f l least ps (i + 1) 44 m3 nd') () else partsR kp f l least ps (i + 1) 44 k nd') := fun k nd' hk => by
      split
      · exact else_in (mark_in (by decide) hk) fun j hj => parts_in K hf least ps (i + 1) 44 j nd' (by decide) hj
      · exact parts_in K hf least ps (i + 1) 44 k nd' (by decide) hk
    have tail_in' : ∀ k nd', k ≤ l'.length → In l' k (if least ≤ i + 1 then elseP (markR l' k 41) nd' (fun m3 => partsR kp f' l' least ps (i + 1) 44 m3 nd') () else partsR kp f' l' least ps (i + 1) 44 k nd') := fun k nd' hk => by
      split
      · exact else_in (mark_in (by decide) hk) fun j hj => parts_in K hf' least ps (i + 1) 44 j nd' (by decide) hj
      · exact parts_in K hf' least ps (i + 1) 44 k nd' (by decide) hk
    refine Lo.bind (mark_lo h0 hm hm') (mark_in h0 hm').2 (mark_in h0 hm).2 (fun _ _ => ?_) (fun k _ hk => In.bind (part_in K hf p nd hk) fun m2 nd' h2 => tail_in m2 nd' h2) (fun k _ hk => In.bind (part_in K hf' p nd hk) fun m2 nd' h2 => tail_in' m2 nd' h2)
    have hk := (mark_in (l := l) (b := mark) h0 hm).2
    generalize (markR l m mark).1 = k at hk
    refine lo_any (In.bind (part_in K hf p nd hk) fun m2 nd' h2 => tail_in m2 nd' h2) fun hk' => ?_
    refine Lo.bind (part_lo K hf hf' hff p nd hk hk') (part_in K hf' p nd hk').2 (part_in K hf p nd hk).2 (fun nd' _ => ?_) (fun j nd' hj => tail_in j nd' hj) (fun j nd' hj => tail_in' j nd' hj)
    have hj := (part_in K hf p nd hk).2
    generalize (partR kp f l p k nd).1 = j at hj
    refine lo_any (tail_in j nd' hj) fun hj' => ?_
    by_cases hl : least ≤ i + 1
    · rw [if_pos hl, if_pos hl]
      exact else_lo (mark_lo (by decide) hj hj') (mark_in (by decide) hj').2 (mark_in (by decide) hj).2 (rest _ nd' (mark_in (by decide) hj).2) (fun a ha => parts_in K hf least ps (i + 1) 44 a nd' (by decide) ha) (fun a ha => parts_in K hf' least ps (i + 1) 44 a nd' (by decide) ha)
    · rw [if_neg hl, if_neg hl]
      exact rest j nd' hj
end
end Go.Proofs.YtllnamhgnbdkmaaGreatDoor

namespace Go.Proofs.YtllnamhgnbdkmaaGreatDoor
open Go.RowKit

/-- A word, or a name, with what stands behind it; F: its parts. -/
def wordN (t : List UInt8) (last : Bool) (k : Nat) (F : List UInt8 → Nat → Nat × Option Nd) : Nat × Option Nd := match wdP t with
  | none => (k, some (nameN t))
  | some (p, least) => if hasB p 101 && last then (k, none) else if p = [] then (k, some (.mk t 0 [] ty0 [])) else F p least
theorem word_in {l t : List UInt8} {last : Bool} {k : Nat} {F : List UInt8 → Nat → Nat × Option Nd} (hk : k ≤ l.length) (hF : ∀ p least, In l k (F p least)) : In l k (wordN t last k F) := by
  unfold wordN
  split
  · exact ⟨Nat.le_refl _, hk⟩
  · split
    · exact ⟨Nat.le_refl _, hk⟩
    · split
      · exact ⟨Nat.le_refl _, hk⟩
      · exact hF _ _
theorem word_lo {l l' t : List UInt8} {last : Bool} {k : Nat} {F F' : List UInt8 → Nat → Nat × Option Nd} (hF : ∀ p least, Lo l l' (F p least) (F' p least)) : Lo l l' (wordN t last k F) (wordN t last k F') := by
  unfold wordN
  cases wdP t with
  | none => exact Lo.done fun _ => rfl
  | some x =>
    obtain ⟨p, least⟩ := x
    simp only
    split
    · exact Lo.done fun _ => rfl
    · split
      · exact Lo.done fun _ => rfl
      · exact hF p least

theorem strS_in {l : List UInt8} {m : Nat} (hm : m < l.length) : In l m (strN l m) := by
  unfold strN
  have h1 : In l (m + 1) (strS l m) := str_in 257 [] (m + 1) hm
  exact map_in (fun t => Nd.mk textW 0 t ty0 []) ⟨Nat.le_trans (Nat.le_succ m) h1.1, h1.2⟩
theorem strS_lo {l l' : List UInt8} {m : Nat} (hm : m < l.length) (hm' : m < l'.length) : Lo l l' (strN l m) (strN l' m) := by
  unfold strN
  exact map_lo (fun t => Nd.mk textW 0 t ty0 []) (str_lo 257 [] (m + 1) hm hm')

section
variable {kp : List UInt8 → Nat × Option Ty}

theorem expr_at (l : List UInt8) (r m : Nat) : exprR kp l (r + 1) m = (if decide (lkB l m = 45) || isDig (lkB l m) then numN l m else if lkB l m = 34 then strN l m else if isLet (lkB l m) then
    wordN (spel l m) (decide (r = 0)) (m + (spel l m).length) (fun p least => partsR kp (exprR kp l r) l least p 0 40 (m + (spel l m).length) (.mk (spel l m) 0 [] ty0 [])) else (m, none)) := by
  rw [exprR]
  split
  · rfl
  split
  · rfl
  split
  · unfold wordN
    cases wdP (spel l m) with
    | none => rfl
    | some x => obtain ⟨p, least⟩ := x; rfl
  · rfl

variable (K : KpOk kp)
include K
theorem expr_in {l : List UInt8} : ∀ (r m : Nat), m ≤ l.length → In l m (exprR kp l r m)
  | 0, m, hm => ⟨Nat.le_refl m, hm⟩
  | r + 1, m, hm => by
    rw [expr_at]
    split
    · exact num_in hm
    split
    · rename_i h; exact strS_in (lkB_lt (by rw [h]; decide))
    split
    · have hk := spel_in hm
      have := word_in (l := l) (t := spel l m) (last := decide (r = 0)) (F := fun p least => partsR kp (exprR kp l r) l least p 0 40 (m + (spel l m).length) (.mk (spel l m) 0 [] ty0 [])) hk (fun p least => parts_in K (fun k hk => expr_in r k hk) least p 0 40 _ _ (by decide) hk)
      exact ⟨Nat.le_trans (Nat.le_add_right _ _) this.1, this.2⟩
    · exact ⟨Nat.le_refl m, hm⟩
theorem expr_lo {l l' : List UInt8} : ∀ (r m : Nat), m ≤ l.length → m ≤ l'.length → Lo l l' (exprR kp l r m) (exprR kp l' r m)
  | 0, m, _, _ => Lo.done fun _ => rfl
  | r + 1, m, hm, hm' => by
    refine lo_first (expr_in K (r + 1) m hm) (expr_in K (r + 1) m hm') fun hb => ?_
    rw [expr_at, expr_at, hb]
    by_cases h1 : (decide (lkB l m = 45) || isDig (lkB l m)) = true
    · rw [if_pos h1, if_pos h1]; exact num_lo hm hm'
    rw [if_neg h1, if_neg h1]
    by_cases h2 : lkB l m = 34
    · rw [if_pos h2, if_pos h2]
      exact strS_lo (lkB_lt (by rw [h2]; decide)) (lkB_lt (by rw [hb, h2]; decide))
    rw [if_neg h2, if_neg h2]
    by_cases h3 : isLet (lkB l m) = true
    · rw [if_pos h3, if_pos h3]
      intro hs
      have hk := spel_in hm
      have pin : ∀ p least, In l (m + (spel l m).length) (partsR kp (exprR kp l r) l least p 0 40 (m + (spel l m).length) (.mk (spel l m) 0 [] ty0 [])) := fun p least => parts_in K (fun k hk => expr_in K r k hk) least p 0 40 _ _ (by decide) hk
      have hge := (word_in (l := l) (t := spel l m) (last := decide (r = 0)) hk pin).1
      have key : spel l' m = spel l m → Lo l l' (wordN (spel l m) (decide (r = 0)) (m + (spel l m).length) (fun p least => partsR kp (exprR kp l r) l least p 0 40 (m + (spel l m).length) (.mk (spel l m) 0 [] ty0 []))) (wordN (spel l' m) (decide (r = 0)) (m + (spel l' m).length) (fun p least => partsR kp (exprR kp l' r) l' least p 0 40 (m + (spel l' m).length) (.mk (spel l' m) 0 [] ty0 []))) := fun he => by
        rw [he]
        exact word_lo fun p least => lo_any (pin p least) fun hk' => parts_lo K (fun k hk => expr_in K r k hk) (fun k hk => expr_in K r k hk) (fun k hk hk' => expr_lo r k hk hk') least p 0 40 _ _ (by decide) hk hk'
      have hs' : ∀ j, j < m + (spel l m).length → l'[j]? = l[j]? := fun j hj => hs j (Nat.lt_of_lt_of_le hj hge)
      rcases Nat.lt_or_ge (m + (spel l m).length) (wordN (spel l m) (decide (r = 0)) (m + (spel l m).length) (fun p least => partsR kp (exprR kp l r) l least p 0 40 (m + (spel l m).length) (.mk (spel l m) 0 [] ty0 []))).1 with hlt | hle
      · exact key (spel_same hs' (.inl (hs _ hlt))) hs
      · have he : (wordN (spel l m) (decide (r = 0)) (m + (spel l m).length) (fun p least => partsR kp (exprR kp l r) l least p 0 40 (m + (spel l m).length) (.mk (spel l m) 0 [] ty0 []))).1 = m + (spel l m).length := Nat.le_antisymm hle hge
        refine ⟨fun h => ?_, fun h => ?_⟩
        · have h4 := h
          rw [he] at h4
          exact (key (spel_same hs' (.inl h4)) hs).1 h
        · have h4 := h
          rw [he] at h4
          exact (key (spel_same hs' (.inr h4)) hs).2 h
    · rw [if_neg h3, if_neg h3]
      exact Lo.done fun _ => rfl

/-- Whether a text ends there. -/
def endP (l : List UInt8) (n : Nd) (k : Nat) : Nat × Option Nd := if k < l.length then (k, none) else (k, some n)
omit K in
theorem end_in {l : List UInt8} {n : Nd} {k : Nat} (hk : k ≤ l.length) : In l k (endP l n k) := by
  unfold endP
  split <;> exact ⟨Nat.le_refl k, hk⟩
omit K in
theorem end_lo {l l' : List UInt8} {n : Nd} {k : Nat} : Lo l l' (endP l n k) (endP l' n k) := by
  intro hs
  have h1 : ∀ x : List UInt8, (endP x n k).1 = k := fun x => by unfold endP; split <;> rfl
  rw [h1] at hs ⊢
  rw [h1]
  refine ⟨fun h => ?_, fun _ => rfl⟩
  unfold endP
  rcases Nat.lt_or_ge k l.length with h2 | h2
  · have h3 : k < l'.length := by
      rcases Nat.lt_or_ge k l'.length with h3 | h3
      · exact h3
      · rw [List.getElem?_eq_none_iff.2 h3] at h
        have := none_le h.symm
        omega
    rw [if_pos h2, if_pos h3]
  · have h3 : l'.length ≤ k := by
      rw [List.getElem?_eq_none_iff.2 h2] at h
      exact none_le h
    rw [if_neg (by omega), if_neg (by omega)]
theorem parse_in (l : List UInt8) : In l 0 (parseR kp l) := by
  have h0 := skip_in (l := l) (m := 0) (Nat.zero_le _)
  have h1 := expr_in K 24 (skip l 0) h0.2
  have h2 : In l 0 (exprR kp l 24 (skip l 0)) := ⟨Nat.zero_le _, h1.2⟩
  exact In.bind (g := fun m n => endP l n (skip l m)) h2 fun m n hm => behind_in (g := fun k => endP l n k) hm fun k hk => end_in hk
theorem parse_lo (l l' : List UInt8) : Lo l l' (parseR kp l) (parseR kp l') := by
  have e : ∀ x : List UInt8, parseR kp x = bindP (exprR kp x 24 (skip x 0)) fun m n => endP x n (skip x m) := fun _ => rfl
  rw [e, e]
  have hin : ∀ x : List UInt8, In x 0 (exprR kp x 24 (skip x 0)) := fun x => by
    have h0 := skip_in (l := x) (m := 0) (Nat.zero_le _)
    exact ⟨Nat.zero_le _, (expr_in K 24 (skip x 0) h0.2).2⟩
  refine Lo.bind (behind_lo (g := fun k => exprR kp l 24 k) (g' := fun k => exprR kp l' 24 k) (Nat.zero_le _) (Nat.zero_le _) (fun k hk => lo_any (expr_in K 24 k hk) fun hk' => expr_lo K 24 k hk hk') (fun k hk => expr_in K 24 k hk) (fun k hk => expr_in K 24 k hk)) (hin l').2 (hin l).2 (fun n _ => ?_)
    (fun m n hm => behind_in (g := fun k => endP l n k) hm fun k hk => end_in hk) (fun m n hm => behind_in (g := fun k => endP l' n k) hm fun k hk => end_in hk)
  have hk := (hin l).2
  generalize (exprR kp l 24 (skip l 0)).1 = k at hk
  refine lo_any (behind_in (g := fun k => endP l n k) hk fun k hk => end_in hk) fun hk' => ?_
  exact behind_lo (g := fun k => endP l n k) (g' := fun k => endP l' n k) hk hk' (fun _ _ => end_lo) (fun k hk => end_in hk) (fun k hk => end_in hk)

/-- What stands ahead of a fault goes on to some right text, or has its fault where it ends; with the byte at it nothing goes on. -/
theorem parse_prefix {l : List UInt8} {m : Nat} (h : parseR kp l = (m, none)) : m ≤ l.length ∧ (parseR kp (l.take m)).1 = m ∧ ∀ more, m < l.length → parseR kp (l.take (m + 1) ++ more) = (m, none) := by
  have hin := parse_in K l
  rw [h] at hin
  have hm : m ≤ l.length := hin.2
  refine ⟨hm, ?_, fun more hlt => ?_⟩
  · have := parse_lo K l (l.take m)
    rw [h] at this
    exact (this fun j hj => by rw [List.getElem?_take, if_pos hj]).2 (List.getElem?_eq_none_iff.2 (by rw [List.length_take]; exact Nat.min_le_left _ _))
  · have := parse_lo K l (l.take (m + 1) ++ more)
    rw [h] at this
    have hj : ∀ j, j ≤ m → (l.take (m + 1) ++ more)[j]? = l[j]? := fun j hj => by
      rw [List.getElem?_append_left (by rw [List.length_take]; omega), List.getElem?_take, if_pos (by omega)]
    exact (this fun j h => hj j (Nat.le_of_lt h)).1 (hj m (Nat.le_refl _))
omit K in
theorem parse_end {l : List UInt8} {m : Nat} {n : Nd} (h : parseR kp l = (m, some n)) : l.length ≤ m := by
  have e : parseR kp l = bindP (exprR kp l 24 (skip l 0)) fun m n => endP l n (skip l m) := rfl
  rw [e] at h
  cases hq : exprR kp l 24 (skip l 0) with
  | mk k o =>
  rw [hq] at h
  cases o with
  | none => cases h
  | some x =>
    have h' : endP l x (skip l k) = (m, some n) := h
    unfold endP at h'
    split at h'
    · cases h'
    · injection h' with h1 h2; omega
end
end Go.Proofs.YtllnamhgnbdkmaaGreatDoor
namespace Go.Proofs.YtllnamhgnbdkmaaGreatDoor
open Go.RowKit

/-- All below P but block R is as it was. -/
structure Kp (R P : Nat) (w w' : World) : Prop where
  os : w'.os = w.os
  tape : w'.tape = w.tape
  output : w'.output = w.output
  size : w.heap.size ≤ w'.heap.size
  block : ∀ i, i < P → i ≠ R → w'.heap[i]? = w.heap[i]?
theorem Kp.of_only {R P : Nat} {w w' : World} (h : Only R w w') (hP : P ≤ w.heap.size) : Kp R P w w' := ⟨h.os, h.tape, h.output, h.size, fun i hi hne => h.block i (by omega) (by simpa using hne)⟩
theorem Kp.trans {R P : Nat} {a b c : World} (h : Kp R P a b) (k : Kp R P b c) : Kp R P a c :=
  ⟨k.os.trans h.os, k.tape.trans h.tape, k.output.trans h.output, Nat.le_trans h.size k.size, fun i hi hne => (k.block i hi hne).trans (h.block i hi hne)⟩
theorem Kp.refl (R P : Nat) (w : World) : Kp R P w w := ⟨rfl, rfl, rfl, Nat.le_refl _, fun _ _ _ => rfl⟩

/-- A cell of a row of one's own is set. -/
theorem own_put {w : World} {B g n size cap : Nat} {e : TypeId} {xs : List Value} (h : w.ownsRow B e size (.slice (some ⟨g, 0, none⟩) n cap) n xs) {k : Nat} (_hk : k < xs.length) (u : Value) :
    (w.setCell ⟨g, k, none⟩ u).ownsRow B e size (.slice (some ⟨g, 0, none⟩) n cap) n (xs.set k u) := by
  obtain ⟨hl, h2⟩ := h
  refine ⟨by simp [hl], ?_⟩
  rcases h2 with ⟨h0, _⟩ | ⟨g', cap', cur, he, hb, hg, hn, hm, hsz, ht⟩
  · cases h0
  · injection he with he1 he2 he3
    injection he1 with he1
    injection he1 with he1
    subst he1
    subst he3
    refine .inr ⟨g, cap, cur.setIfInBounds k u, rfl, hb, ?_, hn, hm, by simpa using hsz, ?_⟩
    · simp [World.setCell, Array.getElem?_modify, hg]
    · rw [← ht, Array.toList_setIfInBounds, List.take_set]
end Go.Proofs.YtllnamhgnbdkmaaGreatDoor

namespace Go.Proofs.YtllnamhgnbdkmaaGreatDoor
open Go.RowKit

theorem setCell_heap_size (w : World) (p : Addr) (u : Value) : (w.setCell p u).heap.size = w.heap.size := by simp [World.setCell]

theorem put6_far {w : World} {g b : Nat} {o0 o1 o2 o3 o4 o5 : Nat} {u0 u1 u2 u3 u4 u5 : Value} (hne : b ≠ g) : ((((((w.setCell ⟨g, o0, none⟩ u0).setCell ⟨g, o1, none⟩ u1).setCell ⟨g, o2, none⟩ u2).setCell ⟨g, o3, none⟩ u3).setCell ⟨g, o4, none⟩ u4).setCell ⟨g, o5, none⟩ u5).heap[b]? = w.heap[b]? := by
  rw [Below.heap_setCell _ _ _ _ hne, Below.heap_setCell _ _ _ _ hne, Below.heap_setCell _ _ _ _ hne, Below.heap_setCell _ _ _ _ hne, Below.heap_setCell _ _ _ _ hne, Below.heap_setCell _ _ _ _ hne]
end Go.Proofs.YtllnamhgnbdkmaaGreatDoor

namespace Go.Proofs.YtllnamhgnbdkmaaGreatDoor
open Go.RowKit

theorem put6_only {w : World} {g : Nat} {o0 o1 o2 o3 o4 o5 : Nat} {u0 u1 u2 u3 u4 u5 : Value} : Only g w ((((((w.setCell ⟨g, o0, none⟩ u0).setCell ⟨g, o1, none⟩ u1).setCell ⟨g, o2, none⟩ u2).setCell ⟨g, o3, none⟩ u3).setCell ⟨g, o4, none⟩ u4).setCell ⟨g, o5, none⟩ u5) :=
  (((((Only.set_ g _ _ _).trans (Only.set_ g _ _ _)).trans (Only.set_ g _ _ _)).trans (Only.set_ g _ _ _)).trans (Only.set_ g _ _ _)).trans (Only.set_ g _ _ _)

/-- All is as it was but the reader's block, the node's and its own row. -/
structure Kv (R P : Nat) (vs : Value) (w w' : World) : Prop where
  os : w'.os = w.os
  tape : w'.tape = w.tape
  output : w'.output = w.output
  size : w.heap.size ≤ w'.heap.size
  block : ∀ i, i < w.heap.size → i ≠ R → i ≠ P → some i ≠ vs.ownBlock → w'.heap[i]? = w.heap[i]?
/-- The own row is the one of before, or new. -/
def OwnTo (w : World) (vs vs' : Value) : Prop := vs'.ownBlock = vs.ownBlock ∨ ∀ g, vs'.ownBlock = some g → w.heap.size ≤ g
theorem Kv.of_only {R P : Nat} {vs : Value} {w w' : World} (h : Only R w w') : Kv R P vs w w' := ⟨h.os, h.tape, h.output, h.size, fun i hi hne _ _ => h.block i hi (by simpa using hne)⟩
theorem Kv.set_ {R P : Nat} {vs : Value} {w W : World} (h : Kv R P vs w W) (i : Nat) (u : Value) : Kv R P vs w (W.setCell ⟨P, i, none⟩ u) :=
  ⟨h.os, h.tape, h.output, by have := h.size; simpa [World.setCell] using this, fun j hj h1 h2 h3 => (Below.heap_setCell W _ u j h2).trans (h.block j hj h1 h2 h3)⟩
theorem Kv.trans {R P : Nat} {vs vs' : Value} {a b c : World} (h : Kv R P vs a b) (ht : OwnTo a vs vs') (k : Kv R P vs' b c) : Kv R P vs a c :=
  ⟨k.os.trans h.os, k.tape.trans h.tape, k.output.trans h.output, Nat.le_trans h.size k.size, fun i hi h1 h2 h3 => (k.block i (Nat.lt_of_lt_of_le hi h.size) h1 h2 (fun e => by
    rcases ht with ht | ht
    · exact h3 (e.trans ht)
    · have := ht i e.symm
      omega)).trans (h.block i hi h1 h2 h3)⟩
theorem OwnTo.trans {a b : World} {v1 v2 v3 : Value} (h : OwnTo a v1 v2) (hs : a.heap.size ≤ b.heap.size) (k : OwnTo b v2 v3) : OwnTo a v1 v3 := by
  rcases k with k | k
  · rcases h with h | h
    · exact .inl (k.trans h)
    · exact .inr fun g hg => h g (k.symm.trans hg)
  · exact .inr fun g hg => Nat.le_trans hs (k g hg)

end Go.Proofs.YtllnamhgnbdkmaaGreatDoor
namespace Go.Proofs.YtllnamhgnbdkmaaGreatDoor
open Go.RowKit

theorem part_nm (kp : List UInt8 → Nat × Option Ty) (f : Nat → Nat × Option Nd) (l : List UInt8) (m : Nat) (nd : Nd) : partR kp f l 110 m nd = bindP (nameR l (skip l m)) fun m' k => (m', some (.mk nd.op nd.int nd.text nd.ty (nd.kids ++ [k]))) := by
  unfold partR
  rw [if_neg (by decide), if_neg (by decide), if_pos rfl]

end Go.Proofs.YtllnamhgnbdkmaaGreatDoor
namespace Go.Proofs.YtllnamhgnbdkmaaGreatDoor
open Go.RowKit

theorem Kp.set_ {R P : Nat} {w W : World} (h : Kp R P w W) (i : Nat) (u : Value) : Kp R P w (W.setCell ⟨P, i, none⟩ u) :=
  h.trans ⟨rfl, rfl, rfl, by simp [World.setCell], fun j hj _ => Below.heap_setCell W _ u j (by show j ≠ P; omega)⟩
end Go.Proofs.YtllnamhgnbdkmaaGreatDoor

namespace Go.Proofs.YtllnamhgnbdkmaaGreatDoor
open Go.RowKit

theorem part_dg (kp : List UInt8 → Nat × Option Ty) (f : Nat → Nat × Option Nd) (l : List UInt8) (m : Nat) (nd : Nd) : partR kp f l 100 m nd = bindP (digR l (skip l m)) fun m' i => (m', some (.mk nd.op i nd.text nd.ty nd.kids)) := by
  unfold partR
  rw [if_pos rfl]

end Go.Proofs.YtllnamhgnbdkmaaGreatDoor

namespace Go.Proofs.YtllnamhgnbdkmaaGreatDoor
open Go.RowKit

theorem part_ty (kp : List UInt8 → Nat × Option Ty) (f : Nat → Nat × Option Nd) (l : List UInt8) (m : Nat) (nd : Nd) : partR kp f l 116 m nd = bindP (typR kp l (skip l m)) fun m' t => (m', some (.mk nd.op nd.int nd.text t nd.kids)) := by
  unfold partR
  rw [if_neg (by decide), if_pos rfl]

end Go.Proofs.YtllnamhgnbdkmaaGreatDoor
namespace Go.Proofs.YtllnamhgnbdkmaaGreatDoor.Knd
open Go.RowKit

/-- The type of a text; none: where its fault is. -/
def parseT (l : List UInt8) : Nat × Option Ty :=
  match readT 6 l with
  | (k, none) => (k, none)
  | (k, some t) => if k < l.length then (k, none) else (0, some t)

/-- What Parse answers with. -/
def PaOut (w w' : World) (e : Ending) : Nat × Option Ty → Prop
  | (k, none) => e = .returned (.tuple #[.agg #[.int .i64 0, .slice none 0 0], .int .i64 (k : Int), .int .i64 40])
  | (_, some t) => ∃ v, e = .returned (.tuple #[v, .int .i64 0, .int .i64 0]) ∧ TyAt w' (fun b => w.heap.size ≤ b) 6 v t

theorem pa_cell {w w1 : World} {o : Obj} {cs : Array Value} {t : TypeId} (h : Only (w.heap.size + 1) ((w.alloc (.cells cs t)).alloc o) w1) : w1.heap[w.heap.size]? = some (.cells cs t (0, 0)) := by
  rw [h.block _ (by simp <;> omega) (by simp), Below.heap_alloc _ _ _ (by simp)]
  exact heap_alloc_new w _

theorem two_stored {w : World} {g : Nat} {a b : Value} {t : TypeId} (h : w.heap[g]? = some (.cells #[a, b] t (0, 0))) (c d : Value) : ((w.setCell ⟨g, 0, none⟩ c).setCell ⟨g, 1, none⟩ d).heap[g]? = some (.cells #[c, d] t (0, 0)) := by
  simp [World.setCell, Array.getElem?_modify, h]

theorem pa_below {w w1 : World} {o o' : Obj} (h : Only (w.heap.size + 1) ((w.alloc o).alloc o') w1) : Below w.heap.size w w1 :=
  (((Below.refl _ w).alloc (Nat.le_refl _) _).alloc (by simp) _).trans (h.below (by omega) (by simp <;> omega))

section

variable {α : Type} {l l' : List α} {a b : Nat}

theorem take_sub (h : l.take a = l'.take a) (hb : b ≤ a) : l.take b = l'.take b := by
  have := congrArg (List.take b) h
  rwa [List.take_take, List.take_take, Nat.min_eq_left hb] at this

theorem take_drops (h : l.take (a + b) = l'.take (a + b)) : (l.drop a).take b = (l'.drop a).take b := by
  have := congrArg (List.drop a) h
  rwa [List.drop_take, List.drop_take, Nat.add_sub_cancel_left] at this

theorem take_head (h : l.take (a + 1) = l'.take (a + 1)) : (l.drop a).head? = (l'.drop a).head? := by
  have h2 := congrArg (fun x => x[a]?) h
  rw [List.head?_drop, List.head?_drop]
  simpa [List.getElem?_take] using h2

end

theorem readW_none : ∀ (l l' : List UInt8) (lw : List Wd) (n k : Nat), readW lw n l = (k, none) → l.take (k + 1) = l'.take (k + 1) → readW lw n l' = (k, none)
  | [], l', lw, n, k, h, ht => by
    simp only [readW, Prod.mk.injEq] at h
    obtain ⟨rfl, _⟩ := h
    cases l' with
    | nil => rfl
    | cons b r => simp at ht
  | b :: rest, l', lw, n, k, h, ht => by
    cases l' with
    | nil => simp at ht
    | cons b' rest' =>
      simp only [List.take_succ_cons, List.cons.injEq] at ht
      obtain ⟨rfl, ht⟩ := ht
      unfold readW at h ⊢
      cases ho : onW lw n b with
      | nil => simp only [ho] at h ⊢; exact h
      | cons x l2 =>
        simp only [ho] at h ⊢
        split
        · rename_i hx
          rw [if_pos hx, Prod.mk.injEq] at h
          obtain ⟨h1, h2⟩ := h
          have := readW_none rest rest' (x :: l2) (n + 1) _ (Prod.ext rfl h2) (by rw [h1]; exact ht)
          rw [this, ← h1]
        · rename_i hx
          rw [if_neg hx] at h
          exact h

theorem readW_some : ∀ (l l' : List UInt8) (lw : List Wd) (n k : Nat) (x : Wd), readW lw n l = (k, some x) → l.take k = l'.take k → readW lw n l' = (k, some x)
  | [], l', lw, n, k, x, h, ht => by simp [readW] at h
  | b :: rest, l', lw, n, k, x, h, ht => by
    unfold readW at h
    cases ho : onW lw n b with
    | nil => simp [ho] at h
    | cons y l2 =>
      simp only [ho] at h
      split at h
      · rename_i hx
        rw [Prod.mk.injEq] at h
        obtain ⟨h1, h2⟩ := h
        subst h1
        cases l' with
        | nil => simp at ht
        | cons b' rest' =>
          simp only [List.take_succ_cons, List.cons.injEq] at ht
          obtain ⟨rfl, ht⟩ := ht
          have := readW_some rest rest' (y :: l2) (n + 1) _ x (Prod.ext rfl h2) ht
          have e : readW lw n (b :: rest') = ((readW (y :: l2) (n + 1) rest').1 + 1, (readW (y :: l2) (n + 1) rest').2) := by
            rw [readW]
            simp only [ho, if_pos hx]
          rw [e, this]
      · rename_i hx
        rw [Prod.mk.injEq] at h
        obtain ⟨h1, h2⟩ := h
        subst h1
        cases l' with
        | nil => simp at ht
        | cons b' rest' =>
          simp only [List.take_succ_cons, List.cons.injEq] at ht
          obtain ⟨rfl, ht⟩ := ht
          unfold readW
          simp only [ho, if_neg hx, h2]

/-- What a reader tells hangs on no byte behind where it ends. -/
def Loc {α : Type} (f : List UInt8 → Nat × Option α) : Prop :=
  ∀ l l', (∀ k, f l = (k, none) → l.take (k + 1) = l'.take (k + 1) → f l' = (k, none)) ∧ (∀ k x, f l = (k, some x) → l.take k = l'.take k → f l' = (k, some x))

theorem readArgs_ge (rt : List UInt8 → Nat × Option Ty) (l : List UInt8) : ∀ (left i k : Nat) (acc : List Ty), k ≤ (readArgs rt l left i k acc).1
  | 0, _, k, _ => Nat.le_refl k
  | left + 1, i, k, acc => by
    unfold readArgs
    split
    · split
      · simp only; omega
      · rename_i m a _
        have := readArgs_ge rt l left (i + 1) (k + 1 + m) (acc ++ [a])
        omega
    · exact Nat.le_refl k

theorem readArgs_loc (rt : List UInt8 → Nat × Option Ty) (hrt : Loc rt) (l l' : List UInt8) : ∀ (left i k : Nat) (acc : List Ty),
    (∀ m, readArgs rt l left i k acc = (m, none) → l.take (m + 1) = l'.take (m + 1) → readArgs rt l' left i k acc = (m, none)) ∧
    (∀ m x, readArgs rt l left i k acc = (m, some x) → l.take m = l'.take m → readArgs rt l' left i k acc = (m, some x))
  | 0, _, k, acc => ⟨fun m h _ => h, fun m x h _ => h⟩
  | left + 1, i, k, acc => by
    unfold readArgs
    by_cases hh : (l.drop k).head? = some (aheadB i)
    · simp only [if_pos hh]
      cases hr : rt (l.drop (k + 1)) with
      | mk q o =>
        cases o with
        | none =>
          refine ⟨fun m h ht => ?_, fun m x h ht => by simp at h⟩
          simp only [Prod.mk.injEq] at h
          obtain ⟨rfl, _⟩ := h
          have hh' : (l'.drop k).head? = some (aheadB i) := by rw [← take_head (take_sub ht (by omega)), hh]
          have hr' := (hrt (l.drop (k + 1)) (l'.drop (k + 1))).1 q hr (take_drops (by rw [← Nat.add_assoc]; exact ht))
          rw [if_pos hh', hr']
        | some a =>
          have hih := readArgs_loc rt hrt l l' left (i + 1) (k + 1 + q) (acc ++ [a])
          have hge := readArgs_ge rt l left (i + 1) (k + 1 + q) (acc ++ [a])
          have key : ∀ m, k + 1 + q ≤ m → l.take m = l'.take m → (l'.drop k).head? = some (aheadB i) ∧ rt (l'.drop (k + 1)) = (q, some a) := fun m hm ht =>
            ⟨by rw [← take_head (take_sub ht (by omega)), hh], (hrt _ (l'.drop (k + 1))).2 q a hr (take_drops (take_sub ht hm))⟩
          refine ⟨fun m h ht => ?_, fun m x h ht => ?_⟩
          · simp only at h
            have hm : k + 1 + q ≤ m := by rw [h] at hge; exact hge
            obtain ⟨h1, h2⟩ := key (m + 1) (by omega) ht
            rw [if_pos h1, h2]
            exact hih.1 m h ht
          · simp only at h
            have hm : k + 1 + q ≤ m := by rw [h] at hge; exact hge
            obtain ⟨h1, h2⟩ := key m hm ht
            rw [if_pos h1, h2]
            exact hih.2 m x h ht
    · simp only [if_neg hh]
      refine ⟨fun m h ht => ?_, fun m x h ht => by simp at h⟩
      simp only [Prod.mk.injEq] at h
      obtain ⟨rfl, _⟩ := h
      rw [if_neg (by rw [← take_head ht]; exact hh)]

theorem readEnd_ge (x : Wd) (l : List UInt8) (p : Nat × Option (List Ty)) : p.1 ≤ (readEnd x l p).1 := by
  obtain ⟨k, o⟩ := p
  cases o with
  | none => exact Nat.le_refl k
  | some l2 =>
    simp only [readEnd]
    split
    · split <;> simp
    · exact Nat.le_refl k

theorem readT_loc : ∀ r : Nat, Loc (readT r)
  | 0, l, l' => ⟨fun k h _ => h, fun k x h _ => by simp [readT] at h⟩
  | r + 1, l, l' => by
    have hA := fun (x : Wd) (k : Nat) => readArgs_loc (readT r) (readT_loc r) l l' x.args.toNat 0 k []
    unfold readT
    cases hw : readW (fitW (r + 1 : Nat) words) 0 l with
    | mk k o =>
      cases o with
      | none =>
        refine ⟨fun m h ht => ?_, fun m x h ht => by simp at h⟩
        simp only [Prod.mk.injEq] at h
        obtain ⟨rfl, _⟩ := h
        rw [readW_none l l' _ 0 k hw ht]
      | some x =>
        have hge := readArgs_ge (readT r) l x.args.toNat 0 k []
        have hge2 := readEnd_ge x l (readArgs (readT r) l x.args.toNat 0 k [])
        have hAx := hA x k
        simp only
        cases hp : readArgs (readT r) l x.args.toNat 0 k [] with
        | mk m o =>
          rw [hp] at hge hge2 hAx
          simp only at hge
          cases o with
          | none =>
            refine ⟨fun m' h ht => ?_, fun m' y h ht => by simp [readEnd] at h⟩
            simp only [readEnd, Prod.mk.injEq] at h
            obtain ⟨rfl, _⟩ := h
            rw [readW_some l l' _ 0 k x hw (take_sub ht (by omega))]
            simp only
            rw [hAx.1 m rfl ht, readEnd]
          | some l2 =>
            simp only [readEnd]
            by_cases hp0 : 0 < x.args
            · simp only [if_pos hp0]
              by_cases hh : (l.drop m).head? = some 41
              · simp only [if_pos hh]
                refine ⟨fun m' h ht => by simp at h, fun m' y h ht => ?_⟩
                simp only [Prod.mk.injEq] at h
                obtain ⟨rfl, h2⟩ := h
                rw [readW_some l l' _ 0 k x hw (take_sub ht (by omega))]
                simp only
                rw [hAx.2 m l2 rfl (take_sub ht (by omega))]
                simp only
                rw [if_pos hp0, if_pos (by rw [← take_head ht]; exact hh), h2]
              · simp only [if_neg hh]
                refine ⟨fun m' h ht => ?_, fun m' y h ht => by simp at h⟩
                simp only [Prod.mk.injEq] at h
                obtain ⟨rfl, _⟩ := h
                rw [readW_some l l' _ 0 k x hw (take_sub ht (by omega))]
                simp only
                rw [hAx.2 m l2 rfl (take_sub ht (by omega))]
                simp only
                rw [if_pos hp0, if_neg (by rw [← take_head ht]; exact hh)]
            · simp only [if_neg hp0]
              refine ⟨fun m' h ht => by simp at h, fun m' y h ht => ?_⟩
              simp only [Prod.mk.injEq] at h
              obtain ⟨rfl, h2⟩ := h
              rw [readW_some l l' _ 0 k x hw (take_sub ht (by omega))]
              simp only
              rw [hAx.2 m l2 rfl ht]
              simp only
              rw [if_neg hp0, h2]

/-- The place of a fault, whatever follows it. -/
theorem parseT_bad {l : List UInt8} {k : Nat} (h : parseT l = (k, none)) :
    k ≤ l.length ∧ (parseT (l.take k) = (k, none) ∨ ∃ t, parseT (l.take k) = (0, some t)) ∧ (k < l.length → ∀ m, parseT (l.take (k + 1) ++ m) = (k, none)) := by
  have hle := readT_le 6 l
  unfold parseT at h
  cases hr : readT 6 l with
  | mk q o =>
    rw [hr] at h hle
    simp only at hle
    cases o with
    | none =>
      simp only [Prod.mk.injEq] at h
      obtain ⟨rfl, _⟩ := h
      refine ⟨hle, .inl ?_, fun hlt m => ?_⟩
      · have hle2 := readT_le 6 (l.take q)
        rw [List.length_take, Nat.min_eq_left hle] at hle2
        cases hr2 : readT 6 (l.take q) with
        | mk j o2 =>
          rw [hr2] at hle2
          simp only at hle2
          cases o2 with
          | some t =>
            have := (readT_loc 6 (l.take q) l).2 j t hr2 (by rw [List.take_take, Nat.min_eq_left hle2])
            rw [hr] at this
            simp at this
          | none =>
            rcases Nat.lt_or_ge j q with hlt | hge
            · have := (readT_loc 6 (l.take q) l).1 j hr2 (by rw [List.take_take, Nat.min_eq_left (by omega)])
              rw [hr] at this
              simp only [Prod.mk.injEq] at this
              omega
            · obtain rfl : j = q := by omega
              unfold parseT
              rw [hr2]
      · have := (readT_loc 6 l (l.take (q + 1) ++ m)).1 q hr (by rw [List.take_append_of_le_length (by rw [List.length_take]; omega), List.take_take, Nat.min_self])
        unfold parseT
        rw [this]
    | some t =>
      simp only at h
      split at h
      · rename_i hlt
        simp only [Prod.mk.injEq] at h
        obtain ⟨rfl, _⟩ := h
        refine ⟨hle, .inr ⟨t, ?_⟩, fun _ m => ?_⟩
        · have := (readT_loc 6 l (l.take q)).2 q t hr (by rw [List.take_take, Nat.min_self])
          unfold parseT
          rw [this]
          simp only
          rw [if_neg (by rw [List.length_take]; omega)]
        · have := (readT_loc 6 l (l.take (q + 1) ++ m)).2 q t hr (by rw [List.take_append_of_le_length (by rw [List.length_take]; omega), List.take_take, Nat.min_eq_left (by omega)])
          unfold parseT
          rw [this]
          simp only
          rw [if_pos (by rw [List.length_append, List.length_take]; omega)]
      · simp at h
end Go.Proofs.YtllnamhgnbdkmaaGreatDoor.Knd

namespace Go.Proofs.YtllnamhgnbdkmaaGreatDoor
open Go.RowKit

theorem kp_le : ∀ x k, Knd.parseT x = (k, none) → k ≤ x.length := fun _ _ h => (Knd.parseT_bad h).1
theorem kp_ok : KpOk Knd.parseT := by
  refine ⟨kp_le, fun x x' k h hs => ?_, fun x k h => ?_⟩
  · obtain ⟨h1, _, h3⟩ := Knd.parseT_bad h
    rcases Nat.lt_or_ge k x.length with hlt | hge
    · have e : x' = x.take (k + 1) ++ x'.drop (k + 1) := by
        have e1 : x'.take (k + 1) = x.take (k + 1) := by
          apply List.ext_getElem?
          intro j
          rw [List.getElem?_take, List.getElem?_take]
          split
          · exact hs j (by omega)
          · rfl
        rw [← e1, List.take_append_drop]
      rw [e]
      exact h3 hlt _
    · have hk : k = x.length := by omega
      have hnone : x'[k]? = none := by rw [hs k (Nat.le_refl _), List.getElem?_eq_none_iff]; omega
      have hl' := List.getElem?_eq_none_iff.1 hnone
      have e : x' = x := by
        apply List.ext_getElem?
        intro j
        rcases Nat.lt_or_ge j (k + 1) with hj | hj
        · exact hs j (by omega)
        · have e1 : x'[j]? = none := List.getElem?_eq_none_iff.2 (by omega)
          have e2 : x[j]? = none := List.getElem?_eq_none_iff.2 (by omega)
          rw [e1, e2]
      rw [e]
      exact h
  · rcases (Knd.parseT_bad h).2.1 with h | ⟨t, h⟩
    · exact .inr h
    · exact .inl ⟨_, t, h⟩

theorem bl_from (s : ByteArray) (m : Nat) : (s.extract m s.size).data.toList = (bl s).drop m := by
  unfold bl
  simp [ByteArray.data_extract, Array.toList_extract, List.extract, List.take_of_length_le]
theorem bl_to (s : ByteArray) (k : Nat) : (s.extract 0 k).data.toList = (bl s).take k := by
  unfold bl
  simp [ByteArray.data_extract, Array.toList_extract, List.extract]
theorem bl_data (s : ByteArray) : s.data.toList = bl s := rfl

end Go.Proofs.YtllnamhgnbdkmaaGreatDoor
