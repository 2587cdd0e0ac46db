/-
Where the answer's reading ends, how great the whole is at most, and that what is read can be compared.
-/
import Derived.Test.YtbafplnolmdlnaaDoorCmp
import Derived.Test.YtbafplnolmdlnaaDoorCpy
namespace Go.Proofs.YtbafplnolmdlnaaDoor
open Go.RowKit

theorem numL_le (l : List UInt8) : ∀ (k acc m M : Nat), m ≤ l.length → (numL l k acc m M).1 ≤ l.length
  | 0, acc, m, M, h => h
  | k + 1, acc, m, M, h => by
    simp only [numL]
    cases hx : okB l m M with
    | none => exact h
    | some x => exact numL_le l k _ (m + 1) 255 (okB_some hx).2.2

theorem textL_le (l : List UInt8) : ∀ (f : Nat) (acc : List UInt8) (half : Bool) (m : Nat), m ≤ l.length → acc.length ≤ 256 → (textL l f acc half m).1 ≤ l.length ∧ ∀ s, (textL l f acc half m).2 = some s → s.length ≤ 256
  | 0, acc, half, m, h, ha => ⟨h, fun s hs => by simp [textL] at hs⟩
  | f + 1, acc, half, m, h, ha => by
    cases hx : l[m]? with
    | none => rw [textL_out hx]; exact ⟨h, fun s hs => by simp at hs⟩
    | some x =>
      have hlt : m + 1 ≤ l.length := (List.getElem?_eq_some_iff.1 hx).1
      rw [textL_on hx]
      split
      · split
        · exact ⟨hlt, fun s hs => by injection hs with hs; subst hs; exact ha⟩
        · exact textL_le l f acc true (m + 1) hlt ha
      · split
        · rename_i _ hl
          split
          · split
            · exact textL_le l f _ false (m + 1) hlt (by simp; omega)
            · exact ⟨h, fun s hs => by simp at hs⟩
          · exact textL_le l f _ false (m + 1) hlt (by simp; omega)
        · exact ⟨h, fun s hs => by simp at hs⟩

theorem pointL_le (l : List UInt8) (m : Nat) (h : m ≤ l.length) : (pointL l m).1 ≤ l.length := by
  have h1 := numL_le l 3 0 m 31 h
  unfold pointL
  cases hn : numL l 3 0 m 31 with
  | mk m' o =>
    rw [hn] at h1
    cases o with
    | none => exact h1
    | some a =>
      have h2 := numL_le l 3 0 m' 31 h1
      simp only
      cases hn2 : numL l 3 0 m' 31 with
      | mk m2 o2 =>
        rw [hn2] at h2
        cases o2 <;> exact h2

def Bd (l : List UInt8) (d : Nat) (p : Nat × Option (Val × Nat)) : Prop := p.1 ≤ l.length ∧ ∀ V s, p.2 = some (V, s) → s ≤ 2000 ∧ CmpOk d V
def BdL (l : List UInt8) (d n : Nat) (p : Nat × Option (List Val × Nat)) : Prop := p.1 ≤ l.length ∧ ∀ L s, p.2 = some (L, s) → s ≤ 2000 ∧ L.length ≤ n ∧ ∀ x ∈ L, CmpOk d x
def FBd (l : List UInt8) (d : Nat) (f : Nat → Nat → Nat × Option (Val × Nat)) : Prop := ∀ m sz, m ≤ l.length → sz ≤ 2000 → Bd l d (f m sz)

theorem Bd.no {l : List UInt8} {d m : Nat} (h : m ≤ l.length) : Bd l d (m, none) := ⟨h, fun V s hs => by simp at hs⟩
theorem Bd.yes {l : List UInt8} {d m s : Nat} {V : Val} (h : m ≤ l.length) (hs : s ≤ 2000) (hV : CmpOk d V) : Bd l d (m, some (V, s)) := ⟨h, fun V' s' e => by
  have e' : some (V, s) = some (V', s') := e
  injection e' with e'; injection e' with e1 e2; subst e1; subst e2; exact ⟨hs, hV⟩⟩
theorem BdL.no {l : List UInt8} {d n m : Nat} (h : m ≤ l.length) : BdL l d n (m, none) := ⟨h, fun V s hs => by simp at hs⟩
theorem BdL.yes {l : List UInt8} {d n m s : Nat} {L : List Val} (h : m ≤ l.length) (hs : s ≤ 2000) (hn : L.length ≤ n) (hV : ∀ x ∈ L, CmpOk d x) : BdL l d n (m, some (L, s)) := ⟨h, fun V' s' e => by
  have e' : some (L, s) = some (V', s') := e
  injection e' with e'; injection e' with e1 e2; subst e1; subst e2; exact ⟨hs, hn, hV⟩⟩

theorem leafV_bd {α : Type} {l : List UInt8} {d : Nat} (f : α → Val) {sz : Nat} {p : Nat × Option α} (h : p.1 ≤ l.length) (hs : sz ≤ 2000) (hf : ∀ x, p.2 = some x → CmpOk d (f x)) : Bd l d (leafV f sz p) := by
  match p, h, hf with
  | (m, none), h, _ => exact Bd.no h
  | (m, some x), h, hf => exact Bd.yes h hs (hf x rfl)
theorem listV_bd {l : List UInt8} {d n : Nat} (k : Int) {p : Nat × Option (List Val × Nat)} (hn : n ≤ 1000000) (h : BdL l d n p) : Bd l (d + 1) (listV k p) := by
  match p, h with
  | (m, none), h => exact Bd.no h.1
  | (m, some (L, s)), h =>
    obtain ⟨h1, h2, h3⟩ := h.2 L s rfl
    exact Bd.yes h.1 h1 ⟨by show (ByteArray.mk #[]).size ≤ _; decide, Nat.le_trans h2 hn, h3⟩

theorem getP_bd {l : List UInt8} {d : Nat} {f0 f1 : Nat → Nat → Nat × Option (Val × Nat)} (h0 : FBd l d f0) (h1 : FBd l d f1) {m sz : Nat} (hm : m ≤ l.length) (hs : sz ≤ 2000) : BdL l d 2 (getP f0 f1 m sz) := by
  have b0 := h0 m sz hm hs
  unfold getP
  cases hg : f0 m sz with
  | mk m' o =>
    rw [hg] at b0
    cases o with
    | none => exact BdL.no b0.1
    | some p =>
      obtain ⟨V0, s1⟩ := p
      obtain ⟨c1, c2⟩ := b0.2 V0 s1 rfl
      have b1 := h1 m' s1 b0.1 c1
      simp only
      cases hg2 : f1 m' s1 with
      | mk m2 o2 =>
        rw [hg2] at b1
        cases o2 with
        | none => exact BdL.no b1.1
        | some p =>
          obtain ⟨V1, s2⟩ := p
          obtain ⟨c3, c4⟩ := b1.2 V1 s2 rfl
          exact BdL.yes b1.1 c3 (by simp) (by intro x hx; simp at hx; rcases hx with rfl | rfl <;> assumption)

theorem mostM_one {room : Bool} {n : Nat} {l : List UInt8} {m : Nat} {x : UInt8} (h : okB l m (mostM room n) = some x) (h1 : x.toNat = 1) : room = true ∧ n ≤ 2000 := by
  have := (okB_some h).2.1
  unfold mostM at this
  split at this
  · rename_i hh; exact hh
  · omega

theorem getL_bd {l : List UInt8} {d lst : Nat} {f : Nat → Nat → Nat × Option (Val × Nat)} (h0 : FBd l d f) : ∀ (k : Nat) (acc : List Val) (m sz : Nat), m ≤ l.length → sz ≤ 2000 → acc.length + k ≤ 65 → (∀ x ∈ acc, CmpOk d x) → BdL l d 65 (getL f lst l k acc m sz)
  | 0, acc, m, sz, hm, hs, hk, ha => BdL.no hm
  | k + 1, acc, m, sz, hm, hs, hk, ha => by
    unfold getL
    cases hx : okB l m (mostM (decide (acc.length < 64)) (sz + lst)) with
    | none => exact BdL.no hm
    | some x =>
      have hlt : m + 1 ≤ l.length := (okB_some hx).2.2
      simp only
      split
      · rename_i h1
        obtain ⟨_, hsz⟩ := mostM_one hx h1
        have b := h0 (m + 1) (sz + lst) hlt hsz
        cases hg : f (m + 1) (sz + lst) with
        | mk m' o =>
          rw [hg] at b
          cases o with
          | none => exact BdL.no b.1
          | some p =>
            obtain ⟨V, s⟩ := p
            obtain ⟨c1, c2⟩ := b.2 V s rfl
            exact getL_bd h0 k (acc ++ [V]) m' s b.1 c1 (by simp; omega) (by intro y hy; rcases List.mem_append.1 hy with hy | hy; exact ha y hy; simp at hy; subst hy; exact c2)
      · exact BdL.yes hlt hs (by omega) ha

theorem getO_bd {l : List UInt8} {d lst : Nat} {f : Nat → Nat → Nat × Option (Val × Nat)} (h0 : FBd l d f) {m sz : Nat} (hm : m ≤ l.length) (hs : sz ≤ 2000) : Bd l (d + 1) (getO f lst l m sz) := by
  unfold getO
  cases hx : okB l m (mostM true (sz + lst)) with
  | none => exact Bd.no hm
  | some x =>
    have hlt : m + 1 ≤ l.length := (okB_some hx).2.2
    simp only
    split
    · rename_i h1
      obtain ⟨_, hsz⟩ := mostM_one hx h1
      have b := h0 (m + 1) (sz + lst) hlt hsz
      cases hg : f (m + 1) (sz + lst) with
      | mk m' o =>
        rw [hg] at b
        cases o with
        | none => exact Bd.no b.1
        | some p =>
          obtain ⟨V, s⟩ := p
          obtain ⟨c1, c2⟩ := b.2 V s rfl
          exact Bd.yes b.1 c1 ⟨by show (ByteArray.mk #[]).size ≤ _; decide, by simp [Val.list], by intro y hy; simp [Val.list] at hy; subst hy; exact c2⟩
    · exact Bd.yes hlt hs ⟨by show (ByteArray.mk #[]).size ≤ _; decide, by simp [Val.list], by intro y hy; simp [Val.list] at hy⟩

theorem cmp_leaf (d : Nat) (k i : Int) (s : List UInt8) (x y : Int) (hs : s.length ≤ 256) : CmpOk (d + 1) (.mk k i ⟨s.toArray⟩ x y []) := ⟨by show s.toArray.size ≤ _; simp; omega, by simp [Val.list], by intro y hy; simp [Val.list] at hy⟩

theorem getV_bd (l : List UInt8) : ∀ (r : Nat) (t : Ty), FBd l r (getV r t l)
  | 0, t => fun m sz hm hs => Bd.no hm
  | r + 1, t => fun m sz hm hs => by
    have IH := getV_bd l r
    unfold getV
    split
    · exact leafV_bd _ (numL_le l _ _ _ _ hm) hs fun x _ => cmp_leaf _ _ _ [] _ _ (by simp)
    split
    · exact leafV_bd _ (numL_le l _ _ _ _ hm) hs fun x _ => cmp_leaf _ _ _ [] _ _ (by simp)
    split
    · exact leafV_bd _ (textL_le l _ [] false m hm (by simp)).1 hs fun x hx => cmp_leaf _ _ _ x _ _ ((textL_le l _ [] false m hm (by simp)).2 x hx)
    split
    · exact leafV_bd _ (pointL_le l m hm) hs fun x _ => cmp_leaf _ _ _ [] _ _ (by simp)
    split
    · exact listV_bd 6 (by decide) (getP_bd (IH _) (IH _) hm hs)
    split
    · exact listV_bd 7 (by decide) (getL_bd (IH _) 65 [] m sz hm hs (by simp) (by intro x hx; simp at hx))
    · exact getO_bd (IH _) hm hs
end Go.Proofs.YtbafplnolmdlnaaDoor
