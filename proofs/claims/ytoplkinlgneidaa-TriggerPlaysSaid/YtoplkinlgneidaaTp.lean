/-
A machine's life: one step, for every call.
-/
import Derived.Test.YtoplkinlgneidaaTs
import Derived.Laws.AppendOwnNone
set_option linter.unusedVariables false
namespace Go.Proofs.Ytoplkinlgneidaa
open Go.RowKit

/-- What one call tells, and what the machine is behind it: pane, error, fresh, passed, closed. -/
abbrev Stp := Option Inf × Int × Int × Bool × Bool

def addP (E L n fr : Int) (p c : Bool) (v : Int) : Stp :=
  if ¬ (1 ≤ v ∧ v ≤ 1000) then (none, 100, fr, p, c)
  else if c = true then (none, 200, fr, p, c)
  else if ¬ lim E L p = 0 ∧ lim E L p ≤ fr + v then (some (n, (if p = true then 2 else 0), false), 0, 0, p, c)
  else (none, 0, fr + v, p, c)

def passP (T n fr : Int) (p c : Bool) : Stp :=
  if p = true then (none, 200, fr, p, c) else (some (n, 1, T == 0), 0, 0, true, T == 0)

def closeP (n fr : Int) (p c : Bool) : Stp :=
  if ¬ p = true then (none, 100, fr, p, c)
  else if c = true then (none, 200, fr, p, c)
  else if fr = 0 then (none, 0, fr, p, true) else (some (n, 2, true), 0, 0, p, true)

/-- How many panes are OnTime. -/
def cnt (d : List Inf) : Nat := d.countP (fun x => x.2.1 == 1)

/-- What holds of a machine that fired the panes d. -/
structure Inv (d : List Inf) (fr : Int) (p c : Bool) : Prop where
  gd : GdL d
  early : p = false → stgL d = 0 ∧ c = false
  open_ : c = false → ¬ stgL d = 3
  shut : c = true → fr = 0
  one : cnt d = if p = true then 1 else 0
  low : 0 ≤ fr

theorem Inv.nil : Inv [] 0 false false := ⟨.nil, fun _ => ⟨rfl, rfl⟩, fun _ => by decide, (fun h => by cases h), rfl, Int.le_refl _⟩

/-- The panes behind a step. -/
def after (d : List Inf) (r : Stp) : List Inf := d ++ r.1.toList

theorem cnt_snoc (d : List Inf) (x : Inf) : cnt (d ++ [x]) = cnt d + if x.2.1 = 1 then 1 else 0 := by
  simp [cnt, List.countP_append, List.countP_cons]

theorem Inv.fires {d : List Inf} {fr : Int} {p c : Bool} (h : Inv d fr p c) (t : Int) (l p' c' : Bool) (ho : okF (stgL d) t) (h1 : p' = false → p = false ∧ t = 0 ∧ l = false ∧ c' = false) (h2 : c' = false → l = false) (h3 : cnt d + (if t = 1 then 1 else 0) = if p' = true then 1 else 0) : Inv (d ++ [((d.length : Int), t, l)]) 0 p' c' := by
  have hs := stF_eq l ho.1 ho.2.1
  refine ⟨.snoc h.gd ⟨rfl, ho⟩, fun e => ?_, fun e => ?_, fun _ => rfl, ?_, Int.le_refl _⟩
  · obtain ⟨_, ht, hl, hc⟩ := h1 e
    rw [stgL_snoc]; dsimp only; rw [hs, hl, ht]; exact ⟨rfl, hc⟩
  · rw [stgL_snoc]; dsimp only; rw [hs, h2 e]
    have := ho.2.1
    simp; omega
  · rw [cnt_snoc]; exact h3

theorem Inv.add {d : List Inf} {fr : Int} {p c : Bool} (h : Inv d fr p c) (E L v : Int) : Inv (after d (addP E L d.length fr p c v)) (addP E L d.length fr p c v).2.2.1 (addP E L d.length fr p c v).2.2.2.1 (addP E L d.length fr p c v).2.2.2.2 := by
  unfold addP after
  split
  · simpa using h
  · rename_i hv
    split
    · simpa using h
    · rename_i hc
      have hc' : c = false := by cases c with | true => exact absurd rfl hc | false => rfl
      split
      · subst hc'
        dsimp only [Option.toList]
        cases p with
        | false =>
          refine h.fires 0 false false false ⟨by decide, by decide, by rw [(h.early rfl).1]; decide, .inr (h.early rfl).1⟩ (fun _ => ⟨rfl, rfl, rfl, rfl⟩) (fun _ => rfl) ?_
          rw [h.one]; rfl
        | true =>
          refine h.fires 2 false true false ⟨by decide, by decide, h.open_ rfl, .inl rfl⟩ (fun e => by cases e) (fun _ => rfl) ?_
          rw [h.one]; rfl
      · have := h.low
        subst hc'
        exact ⟨by simpa using h.gd, by simpa using h.early, by simpa using h.open_, (fun e => by cases e), by simpa using h.one, by dsimp only; omega⟩

theorem Inv.pass {d : List Inf} {fr : Int} {p c : Bool} (h : Inv d fr p c) (T : Int) : Inv (after d (passP T d.length fr p c)) (passP T d.length fr p c).2.2.1 (passP T d.length fr p c).2.2.2.1 (passP T d.length fr p c).2.2.2.2 := by
  unfold passP after
  split
  · simpa using h
  · rename_i hp
    have hp' : p = false := by cases p with | true => exact absurd rfl hp | false => rfl
    subst hp'
    dsimp only [Option.toList]
    refine h.fires 1 _ true _ ⟨by decide, by decide, by rw [(h.early rfl).1]; decide, .inr (h.early rfl).1⟩ (fun e => by cases e) (fun e => e) ?_
    rw [h.one]; rfl

theorem Inv.close {d : List Inf} {fr : Int} {p c : Bool} (h : Inv d fr p c) : Inv (after d (closeP d.length fr p c)) (closeP d.length fr p c).2.2.1 (closeP d.length fr p c).2.2.2.1 (closeP d.length fr p c).2.2.2.2 := by
  unfold closeP after
  split
  · simpa using h
  · rename_i hp
    have hp' : p = true := by cases p with | true => rfl | false => exact absurd (fun e => by cases e) hp
    subst hp'
    split
    · simpa using h
    · rename_i hc
      have hc' : c = false := by cases c with | true => exact absurd rfl hc | false => rfl
      subst hc'
      split
      · rename_i hf
        exact ⟨by simpa using h.gd, (fun e => by cases e), (fun e => by cases e), fun _ => hf, by simpa using h.one, h.low⟩
      · dsimp only [Option.toList]
        refine h.fires 2 true true true ⟨by decide, by decide, h.open_ rfl, .inl rfl⟩ (fun e => by cases e) (fun e => by cases e) ?_
        rw [h.one]; rfl

/-- The panes of a call, as a value. -/
def Told (B : Nat) (w' : World) (V : Value) (o : Option Inf) : Prop := match o with
  | none => V = .slice none 0 0
  | some x => ∃ b, V = .slice (some ⟨b, 0, none⟩) 1 1 ∧ One B w' b x

/-- What a call comes to. -/
def StOut (m g : Nat) (E L T : Int) (a : Bool) (d : List Inf) (r : Stp) (w : World) (e : Ending) (w' : World) : Prop :=
  ∃ V, e = .returned (.tuple #[V, .int .i64 r.2.1]) ∧ Told w.heap.size w' V r.1 ∧ Mc w' m g E L T a (after d r).length (stgL (after d r)) r.2.2.1 r.2.2.2.1 r.2.2.2.2 ∧ Only2 m g w w'

theorem StOut.none_ {m g : Nat} {E L T : Int} {a : Bool} {d : List Inf} {code fr : Int} {p c : Bool} {w : World} {e : Ending} {w' : World} (he : e = .returned (.tuple #[.slice none 0 0, .int .i64 code])) (hM : Mc w' m g E L T a d.length (stgL d) fr p c) (ho : Only2 m g w w') : StOut m g E L T a d (none, code, fr, p, c) w e w' :=
  ⟨_, he, rfl, by simpa [after] using hM, ho⟩

theorem StOut.some_ {m g : Nat} {E L T : Int} {a : Bool} {d : List Inf} {t : Int} {l p c : Bool} {w : World} {e : Ending} {w' : World} (h : Fired m g E L T a ((d.length : Int) + 1) (stF t l) p c ((d.length : Int), t, l) w e w') : StOut m g E L T a d (some ((d.length : Int), t, l), 0, 0, p, c) w e w' := by
  obtain ⟨b, he, h1, hM, ho⟩ := h
  refine ⟨_, he, ⟨b, rfl, h1⟩, ?_, ho⟩
  simp only [after, Option.toList, stgL_snoc]
  simpa using hM

theorem padd_any (m g : Nat) (E L T : Int) (a : Bool) (d : List Inf) (fr : Int) (p c : Bool) (v : Int) (w : World) (h : Mc w m g E L T a d.length (stgL d) fr p c) (hi : Inv d fr p c) (hd : d.length < 4611686018427387904) (hf : fr ≤ 4611686018427387904) :
    Calls Try.prog 14 #[.pointer (some ⟨m, 0, none⟩), .int .i64 v] w (StOut m g E L T a d (addP E L d.length fr p c v) w) := by
  unfold addP
  by_cases hv : 1 ≤ v ∧ v ≤ 1000
  · rw [if_neg (fun h => h hv)]
    cases c with
    | true =>
      rw [if_pos rfl]
      refine (add_closed m g E L T a _ _ fr p v w h hv).mono fun e w' ⟨he, hw⟩ => ?_
      subst hw
      exact .none_ he h (Only2.refl _ _ _)
    | false =>
      rw [if_neg (fun e => by cases e)]
      split
      · rename_i hq
        refine (add_fire m g E L T a _ _ fr p v w h (by omega) (by omega) hv hi.low hf hq ?_).mono fun e w' hr => .some_ hr
        cases p with
        | false => exact ⟨by decide, by decide, by rw [(hi.early rfl).1]; decide, .inr (hi.early rfl).1⟩
        | true => exact ⟨by decide, by decide, hi.open_ rfl, .inl rfl⟩
      · rename_i hq
        refine (add_quiet m g E L T a _ _ fr p v w h hv hi.low hf ?_).mono fun e w' ⟨he, hM, ho⟩ => .none_ he hM ho
        rcases Decidable.em (lim E L p = 0) with e | e
        · exact .inl e
        · exact .inr (by have : ¬ lim E L p ≤ fr + v := fun k => hq ⟨e, k⟩; omega)
  · rw [if_pos hv]
    refine (add_bad m g E L T a _ _ fr p c v w h hv).mono fun e w' ⟨he, hw⟩ => ?_
    subst hw
    exact .none_ he h (Only2.refl _ _ _)

theorem ppass_any (m g : Nat) (E L T : Int) (a : Bool) (d : List Inf) (fr : Int) (p c : Bool) (w : World) (h : Mc w m g E L T a d.length (stgL d) fr p c) (hi : Inv d fr p c) (hd : d.length < 4611686018427387904) :
    Calls Try.prog 15 #[.pointer (some ⟨m, 0, none⟩)] w (StOut m g E L T a d (passP T d.length fr p c) w) := by
  unfold passP
  cases p with
  | true =>
    rw [if_pos rfl]
    refine (pass_bad m g E L T a _ _ fr c w h).mono fun e w' ⟨he, hw⟩ => ?_
    subst hw
    exact .none_ he h (Only2.refl _ _ _)
  | false =>
    rw [if_neg (fun e => by cases e)]
    exact (pass_ok m g E L T a _ _ fr c w h (by omega) (by omega) ⟨by decide, by decide, by rw [(hi.early rfl).1]; decide, .inr (hi.early rfl).1⟩ _ rfl).mono fun e w' hr => .some_ hr

theorem pclose_any (m g : Nat) (E L T : Int) (a : Bool) (d : List Inf) (fr : Int) (p c : Bool) (w : World) (h : Mc w m g E L T a d.length (stgL d) fr p c) (hi : Inv d fr p c) (hd : d.length < 4611686018427387904) :
    Calls Try.prog 16 #[.pointer (some ⟨m, 0, none⟩)] w (StOut m g E L T a d (closeP d.length fr p c) w) := by
  unfold closeP
  cases p with
  | false =>
    rw [if_pos (fun e => by cases e)]
    refine (close_early m g E L T a _ _ fr c w h).mono fun e w' ⟨he, hw⟩ => ?_
    subst hw
    exact .none_ he h (Only2.refl _ _ _)
  | true =>
    rw [if_neg (fun e => e rfl)]
    cases c with
    | true =>
      rw [if_pos rfl]
      refine (close_bad m g E L T a _ _ fr w h).mono fun e w' ⟨he, hw⟩ => ?_
      subst hw
      exact .none_ he h (Only2.refl _ _ _)
    | false =>
      rw [if_neg (fun e => by cases e)]
      split
      · rename_i hf
        subst hf
        exact (close_none m g E L T a _ _ w h).mono fun e w' ⟨he, hM, ho⟩ => .none_ he hM ho
      · rename_i hf
        exact (close_fire m g E L T a _ _ fr w h (by omega) (by omega) hf ⟨by decide, by decide, hi.open_ rfl, .inl rfl⟩).mono fun e w' hr => .some_ hr

theorem after_len (d : List Inf) (r : Stp) : (after d r).length ≤ d.length + 1 := by
  unfold after
  cases r.1 <;> simp

theorem add_fresh (E L n fr : Int) (p c : Bool) (v : Int) (h : 0 ≤ fr) : (addP E L n fr p c v).2.2.1 ≤ fr + 1000 := by
  unfold addP
  split
  · dsimp only; omega
  · split
    · dsimp only; omega
    · split
      · dsimp only; omega
      · dsimp only; omega

theorem pass_fresh (T n fr : Int) (p c : Bool) (h : 0 ≤ fr) : (passP T n fr p c).2.2.1 ≤ fr + 1000 := by
  unfold passP
  split <;> (dsimp only; omega)

theorem close_fresh (n fr : Int) (p c : Bool) (h : 0 ≤ fr) : (closeP n fr p c).2.2.1 ≤ fr + 1000 := by
  unfold closeP
  split
  · dsimp only; omega
  · split
    · dsimp only; omega
    · split <;> (dsimp only; omega)

end Go.Proofs.Ytoplkinlgneidaa
