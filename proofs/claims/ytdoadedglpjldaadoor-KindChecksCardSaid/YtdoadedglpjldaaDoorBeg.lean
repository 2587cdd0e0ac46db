/-
begins of the document's answer; how readW's answer is found by looking at one word after the other.
-/
import Derived.Test.YtdoadedglpjldaaDoorOf
import Derived.Lib.Strings
namespace Go.Proofs.YtdoadedglpjldaaDoor
open Go.RowKit

/-- Does a text begin with this name? -/
def pfx (a : ByteArray) (l : List UInt8) : Bool := decide (l.take a.size = a.data.toList)

set_option maxRecDepth 100000 in
theorem begins_any (a b : ByteArray) (w : World) :
    Calls Tryd.prog 46 #[.string a, .string b] w fun e w' => e = .returned (.bool (pfx a b.data.toList)) ∧ w = w' := by
  by_cases h : a.size ≤ b.size
  · have HP : Hid (((b.extract 0 a.size).toList == a.toList) = pfx a b.data.toList) := by
      show _ = _
      rw [Lib.toList_data, Lib.toList_data, Lib.extract_data, Nat.sub_zero, List.drop_zero, pfx, Bool.eq_iff_iff]
      simp
    go_enter Tryd.func46, Tryd.ntmps46
    go_wp2_with (fail)
    go_ret
    rw [← HP.out]
    exact ⟨rfl, rfl⟩
  · have HP : Hid (pfx a b.data.toList = false) := by
      show _ = _
      unfold pfx
      rw [decide_eq_false_iff_not]
      intro e
      have := congrArg List.length e
      simp at this
      omega
    go_enter Tryd.func46, Tryd.ntmps46
    go_wp2_with (fail)
    go_ret
    rw [HP.out]
    exact ⟨rfl, rfl⟩

/-- How many bytes two texts begin with in common. -/
def lcp : List UInt8 → List UInt8 → Nat
  | a :: l, b :: m => if a = b then lcp l m + 1 else 0
  | _, _ => 0

theorem lcp_nil (l : List UInt8) : lcp l [] = 0 := by cases l <;> rfl

theorem readW_none_all : ∀ (l : List UInt8) (lw : List Wd) (n k : Nat), readW lw n l = (k, none) → St lw n →
    (∀ y ∈ lw, lcp (y.name.data.toList.drop n) l ≤ k) ∧ (k = 0 ∨ ∃ y ∈ lw, lcp (y.name.data.toList.drop n) l = k)
  | [], lw, n, k, h, _ => by
    simp only [readW, Prod.mk.injEq] at h
    obtain ⟨rfl, _⟩ := h
    exact ⟨fun y _ => by rw [lcp_nil]; exact Nat.le_refl _, .inl rfl⟩
  | b :: rest, lw, n, k, h, hst => by
    unfold readW at h
    have split1 : ∀ y ∈ lw, y ∉ onW lw n b → lcp (y.name.data.toList.drop n) (b :: rest) = 0 := fun y hy hno => by
      have hl := (hst.1 y hy).2
      have hyl : y.name.data.toList.length = y.name.size := by simp
      rw [List.drop_eq_getElem_cons (by omega)]
      simp only [lcp]
      rw [if_neg]
      intro e
      refine hno (List.mem_filter.2 ⟨hy, ?_⟩)
      rw [List.getElem?_eq_getElem (by omega)]
      simp [e]
    have split2 : ∀ y ∈ onW lw n b, lcp (y.name.data.toList.drop n) (b :: rest) = lcp (y.name.data.toList.drop (n + 1)) rest + 1 := fun y hy => by
      obtain ⟨hy1, hy2⟩ := List.mem_filter.1 hy
      have e2 : y.name.data.toList[n]? = some b := by simpa using hy2
      obtain ⟨hn, hb⟩ := List.getElem?_eq_some_iff.1 e2
      rw [List.drop_eq_getElem_cons hn, hb, lcp, if_pos rfl]
    cases ho : onW lw n b with
    | nil =>
      simp only [ho, Prod.mk.injEq] at h
      obtain ⟨rfl, _⟩ := h
      exact ⟨fun y hy => by rw [split1 y hy (by rw [ho]; simp)]; exact Nat.le_refl _, .inl rfl⟩
    | cons x l' =>
      simp only [ho] at h
      split at h
      · rename_i hx
        rw [Prod.mk.injEq] at h
        obtain ⟨h1, h2⟩ := h
        subst h1
        obtain ⟨i1, i2⟩ := readW_none_all rest (x :: l') (n + 1) (readW (x :: l') (n + 1) rest).1 (Prod.ext rfl h2) (hst.step ho hx)
        refine ⟨fun y hy => ?_, .inr ?_⟩
        · by_cases hm : y ∈ onW lw n b
          · rw [split2 y hm]
            have := i1 y (by rw [← ho]; exact hm)
            omega
          · rw [split1 y hy hm]; omega
        · have hxm : x ∈ onW lw n b := by rw [ho]; exact List.mem_cons_self ..
          rcases i2 with i2 | ⟨y, hy, he⟩
          · refine ⟨x, (List.mem_filter.1 hxm).1, ?_⟩
            rw [split2 x hxm]
            have := i1 x (List.mem_cons_self ..)
            omega
          · have hym : y ∈ onW lw n b := by rw [ho]; exact hy
            exact ⟨y, (List.mem_filter.1 hym).1, by rw [split2 y hym, he]⟩
      · simp at h

/-- A word that stands there, whole, is read. -/
theorem readW_hit {room : Int} {x : Wd} {l : List UInt8} (hx : x ∈ fitW room words) (hp : pfx x.name l = true) : readW (fitW room words) 0 l = (x.name.size, some x) := by
  have h6 := words_small x (List.mem_filter.1 hx).1
  obtain ⟨m, hm⟩ : ∃ m, x.name.size = m + 1 := ⟨x.name.size - 1, by omega⟩
  rw [hm]
  refine readW_word m _ 0 x l (St.start _) hx (by omega) ?_
  rw [List.drop_zero, ← hm]
  exact of_decide_eq_true hp
theorem readW_miss {room : Int} {l : List UInt8} (h : ∀ y ∈ fitW room words, pfx y.name l = false) : ∃ k, readW (fitW room words) 0 l = (k, none) := by
  cases hr : readW (fitW room words) 0 l with
  | mk k o =>
    cases o with
    | none => exact ⟨k, rfl⟩
    | some x =>
      have hx := readW_mem l (fitW room words) 0 x (by rw [hr])
      have he := readW_ends l _ 0 k x hr (St.start _)
      rw [List.drop_zero] at he
      have h2 := h x hx
      unfold pfx at h2
      rw [decide_eq_false_iff_not] at h2
      have hk : k ≤ l.length := by have := readW_le l (fitW room words) 0; rw [hr] at this; exact this
      have hl := congrArg List.length he
      simp only [List.length_take, Array.length_toList, ByteArray.size_data] at hl
      rw [Nat.min_eq_left hk] at hl
      exact absurd (by rw [← hl]; exact he) h2

/-- The longest beginning that a word and the text have in common, of the words whose kinds are below a number. -/
def bestW (room : Int) (l : List UInt8) (kk : Int) : Nat := ((fitW room words).filter fun y => decide (y.kind < kk)).foldl (fun m y => max m (lcp y.name.data.toList l)) 0

theorem foldl_max_ge (f : Wd → Nat) : ∀ (l : List Wd) (m : Nat), m ≤ l.foldl (fun m y => max m (f y)) m ∧ ∀ y ∈ l, f y ≤ l.foldl (fun m y => max m (f y)) m
  | [], m => ⟨Nat.le_refl _, fun y hy => by simp at hy⟩
  | x :: l, m => by
    obtain ⟨h1, h2⟩ := foldl_max_ge f l (max m (f x))
    simp only [List.foldl_cons]
    exact ⟨by omega, fun y hy => by
      rcases List.mem_cons.1 hy with rfl | hy
      · omega
      · exact h2 y hy⟩
theorem foldl_max_le (f : Wd → Nat) (k : Nat) : ∀ (l : List Wd) (m : Nat), m ≤ k → (∀ y ∈ l, f y ≤ k) → l.foldl (fun m y => max m (f y)) m ≤ k
  | [], m, h, _ => h
  | x :: l, m, h, hl => by
    simp only [List.foldl_cons]
    exact foldl_max_le f k l _ (by have := hl x (List.mem_cons_self ..); omega) (fun y hy => hl y (List.mem_cons_of_mem _ hy))

theorem best_all {room : Int} {l : List UInt8} {k : Nat} (h : readW (fitW room words) 0 l = (k, none)) : bestW room l 10 = k := by
  obtain ⟨h1, h2⟩ := readW_none_all l _ 0 k h (St.start _)
  have hall : (fitW room words).filter (fun y => decide (y.kind < 10)) = fitW room words := by
    rw [List.filter_eq_self]
    intro y hy
    have : ∀ y ∈ words, decide (y.kind < 10) = true := by decide
    exact this y (List.mem_filter.1 hy).1
  unfold bestW
  rw [hall]
  have hge := foldl_max_ge (fun y => lcp y.name.data.toList l) (fitW room words) 0
  have hle := foldl_max_le (fun y => lcp y.name.data.toList l) k (fitW room words) 0 (by omega) (fun y hy => by have := h1 y hy; rw [List.drop_zero] at this; exact this)
  rcases h2 with rfl | ⟨y, hy, he⟩
  · omega
  · rw [List.drop_zero] at he
    have := hge.2 y hy
    omega
end Go.Proofs.YtdoadedglpjldaaDoor
