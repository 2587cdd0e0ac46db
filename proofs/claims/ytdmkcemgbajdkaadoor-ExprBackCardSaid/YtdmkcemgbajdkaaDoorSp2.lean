/-
Package expr: what its reader reads as terms, as plain functions over a text's bytes; and that what is read at a place hangs on the bytes up to where the reading ends.
-/
import Derived.Test.YtdmkcemgbajdkaaDoorRc9
import Derived.Test.YtdmkcemgbajdkaaDoorRc3
import Derived.Test.YtdmkcemgbajdkaaDoorRc6
namespace Go.Proofs.YtdmkcemgbajdkaaDoor
open Go.RowKit

/-- What is read goes on with g; a fault stays where it is. -/
def bindP {α β : Type} (q : Nat × Option α) (g : Nat → α → Nat × Option β) : Nat × Option β := match q with
  | (m, none) => (m, none)
  | (m, some x) => g m x

def intW : List UInt8 := [105, 110, 116]
def textW : List UInt8 := [116, 101, 120, 116, 95, 111, 102]
def numN (l : List UInt8) (m : Nat) : Nat × Option Nd := ((numS l m).1, if (numS l m).2.2 then some (.mk intW (numV (rdB l m 45) (numS l m).2.1) [] ty0 []) else none)
def strN (l : List UInt8) (m : Nat) : Nat × Option Nd := bindP (strS l m) fun m' t => (m', some (.mk textW 0 t ty0 []))

section
variable (kp : List UInt8 → Nat × Option Ty)
/-- A type within a text. -/
def typR (l : List UInt8) (m : Nat) : Nat × Option Ty := match kp (l.drop m) with
  | (_, some t) => (l.length, some t)
  | (k, none) => (m + k, (kp ((l.drop m).take k)).2)
def digR (l : List UInt8) (m : Nat) : Nat × Option Int := if isDig (lkB l m) then (m + 1, some (((lkB l m).toNat : Int) - 48)) else (m, none)
/-- One part of what stands in a word's brackets; f: an expression. -/
def partR (f : Nat → Nat × Option Nd) (l : List UInt8) (p : UInt8) (m : Nat) (nd : Nd) : Nat × Option Nd :=
  if p = 100 then bindP (digR l (skip l m)) fun m' i => (m', some (.mk nd.op i nd.text nd.ty nd.kids))
  else if p = 116 then bindP (typR kp l (skip l m)) fun m' t => (m', some (.mk nd.op nd.int nd.text t nd.kids))
  else if p = 110 then bindP (nameR l (skip l m)) fun m' k => (m', some (.mk nd.op nd.int nd.text nd.ty (nd.kids ++ [k])))
  else bindP (f (skip l m)) fun m' k => (m', some (.mk nd.op nd.int nd.text nd.ty (nd.kids ++ [k])))
/-- A byte that blanks may stand ahead of. -/
def markR (l : List UInt8) (m : Nat) (b : UInt8) : Nat × Option Unit := if rdB l (skip l m) b then (skip l m + 1, some ()) else (skip l m, none)
/-- What stands in a word's brackets, from its i-th part on. -/
def partsR (f : Nat → Nat × Option Nd) (l : List UInt8) (least : Nat) : List UInt8 → Nat → UInt8 → Nat → Nd → Nat × Option Nd
  | [], _, _, m, _ => (m, none)
  | p :: ps, i, mark, m, nd => bindP (markR l m mark) fun m1 _ => bindP (partR kp f l p m1 nd) fun m2 nd' =>
      if least ≤ i + 1 then (match markR l m2 41 with
        | (m3, some _) => (m3, some nd')
        | (m3, none) => partsR f l least ps (i + 1) 44 m3 nd')
      else partsR f l least ps (i + 1) 44 m2 nd'
/-- An expression whose term is at most so deep. -/
def exprR (l : List UInt8) : Nat → Nat → Nat × Option Nd
  | 0, m => (m, none)
  | r + 1, m =>
    if decide (lkB l m = 45) || isDig (lkB l m) then numN l m
    else if lkB l m = 34 then strN l m
    else if isLet (lkB l m) then (match wdP (spel l m) with
      | none => (m + (spel l m).length, some (nameN (spel l m)))
      | some (p, least) => if hasB p 101 && decide (r = 0) then (m + (spel l m).length, none)
        else if p = [] then (m + (spel l m).length, some (.mk (spel l m) 0 [] ty0 []))
        else partsR kp (exprR l r) l least p 0 40 (m + (spel l m).length) (.mk (spel l m) 0 [] ty0 []))
    else (m, none)
/-- A text's term, or the place of its fault. -/
def parseR (l : List UInt8) : Nat × Option Nd := bindP (exprR kp l 24 (skip l 0)) fun m n => if skip l m < l.length then (skip l m, none) else (skip l m, some n)
end

/-- What is read of l ends at p.1; of a text that is the same up to there it is p', the same, or it ends there, too. -/
def Lo {α : Type} (l l' : List UInt8) (p p' : Nat × α) : Prop := (∀ j, j < p.1 → l'[j]? = l[j]?) → (l'[p.1]? = l[p.1]? → p' = p) ∧ (l'[p.1]? = none → p'.1 = p.1)
/-- Between m and the end. -/
def In {α : Type} (l : List UInt8) (m : Nat) (p : Nat × α) : Prop := m ≤ p.1 ∧ p.1 ≤ l.length

theorem lk_same {l l' : List UInt8} {j : Nat} (h : l'[j]? = l[j]?) : lkB l' j = lkB l j := by unfold lkB; rw [h]
theorem lk_none {l : List UInt8} {j : Nat} (h : l[j]? = none) : lkB l j = 0 := by unfold lkB; rw [h]; rfl
theorem none_le {l : List UInt8} {j : Nat} (h : l[j]? = none) : l.length ≤ j := List.getElem?_eq_none_iff.1 h

theorem In.bind {α β : Type} {l : List UInt8} {m : Nat} {q : Nat × Option α} {g : Nat → α → Nat × Option β} (hq : In l m q) (hg : ∀ m' x, m' ≤ l.length → In l m' (g m' x)) : In l m (bindP q g) := by
  match q, hq with
  | (k, none), hq => exact hq
  | (k, some x), hq =>
    have := hg k x hq.2
    exact ⟨Nat.le_trans hq.1 this.1, this.2⟩

theorem Lo.bind {α β : Type} {l l' : List UInt8} {q q' : Nat × Option α} {g g' : Nat → α → Nat × Option β} (hq : Lo l l' q q') (hq' : q'.1 ≤ l'.length) (hql : q.1 ≤ l.length)
    (hg : ∀ x, q.2 = some x → Lo l l' (g q.1 x) (g' q.1 x)) (hi : ∀ m x, m ≤ l.length → In l m (g m x)) (hi' : ∀ m x, m ≤ l'.length → In l' m (g' m x)) : Lo l l' (bindP q g) (bindP q' g') := by
  intro hs
  have hle : q.1 ≤ (bindP q g).1 := by
    match q, hql with
    | (k, none), _ => exact Nat.le_refl _
    | (k, some x), hql => exact (hi k x hql).1
  have hq0 := hq fun j hj => hs j (Nat.lt_of_lt_of_le hj hle)
  by_cases hsame : l'[q.1]? = l[q.1]?
  · have he := hq0.1 hsame
    subst he
    match q', hg, hs with
    | (k, none), _, _ => exact ⟨fun _ => rfl, fun _ => rfl⟩
    | (k, some x), hg, hs => exact hg x rfl hs
  · have hpe : (bindP q g).1 = q.1 := by
      rcases Nat.lt_or_ge q.1 (bindP q g).1 with h | h
      · exact absurd (hs _ h) hsame
      · omega
    rw [hpe]
    refine ⟨fun h => absurd h hsame, fun h => ?_⟩
    have he := hq0.2 h
    have hl := none_le h
    match q', he, hq' with
    | (k, none), he, _ => exact he
    | (k, some x), he, hq' =>
      have := hi' k x hq'
      have h1 := this.1
      have h2 := this.2
      have he' : k = q.1 := he
      show (g' k x).1 = q.1
      omega

theorem Lo.done {α : Type} {l l' : List UInt8} {m : Nat} {x x' : α} (h : l'[m]? = l[m]? → x' = x) : Lo l l' (m, x) (m, x') := fun _ => ⟨fun e => by rw [h e], fun _ => rfl⟩

theorem skip_in {l : List UInt8} {m : Nat} (h : m ≤ l.length) : m ≤ skip l m ∧ skip l m ≤ l.length := skip_le h
theorem skip_lo {l l' : List UInt8} : ∀ (f m : Nat), l.length - m ≤ f → m ≤ l.length → Lo l l' (skip l m, ()) (skip l' m, ())
  | f, m, hf, hm => by
    intro hs
    by_cases h32 : lkB l m = 32
    · have hlt : m < l.length := lkB_lt (by rw [h32]; decide)
      have hon := skip_on h32
      have hge := (skip_in (l := l) (m := m + 1) (by omega)).1
      have h32' : lkB l' m = 32 := (lk_same (hs m (by show m < skip l m; omega))).trans h32
      have hon' := skip_on h32'
      match f, hf with
      | 0, hf => omega
      | f + 1, hf =>
        have IH := skip_lo (l := l) (l' := l') f (m + 1) (by omega) (by omega)
        rw [hon, hon']
        exact IH (by rw [← hon]; exact hs)
    · have hoff := skip_off h32
      rw [hoff] at hs ⊢
      refine ⟨fun h => ?_, fun h => ?_⟩
      · have : lkB l' m ≠ 32 := by rw [lk_same h]; exact h32
        rw [skip_off this]
      · have : lkB l' m ≠ 32 := by rw [lk_none h]; decide
        show skip l' m = m
        exact skip_off this
end Go.Proofs.YtdmkcemgbajdkaaDoor
