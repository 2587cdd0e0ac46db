/-
Ported from the texts of layer 2: Txt: a right type is read back from its text; what is read has that text.
-/
import Derived.Test.YtllnamhgnbdkmaaGreatDoorKc
import Derived.Test.YtllnamhgnbdkmaaGreatDoorKd
namespace Go.Proofs.YtllnamhgnbdkmaaGreatDoor.Knd
open Go.RowKit
theorem wordK_self : ∀ x ∈ words, (wordK x.kind).map (fun y => (y.kind, y.args, y.name)) = some (x.kind, x.args, x.name) := by decide
theorem wordK_of {x : Wd} (hx : x ∈ words) : wordK x.kind = some x := by
  have h := wordK_self x hx
  obtain ⟨y, hy, he⟩ := Option.map_eq_some_iff.1 h
  rw [hy]
  cases x; cases y
  simp only [Prod.mk.injEq] at he
  obtain ⟨h1, h2, h3⟩ := he
  rw [h1, h2, h3]
theorem readW_ends : ∀ (l : List UInt8) (lw : List Wd) (n k : Nat) (x : Wd), readW lw n l = (k, some x) → St lw n → l.take k = x.name.data.toList.drop n
  | [], lw, n, k, x, h, hst => by simp [readW] at h
  | b :: rest, lw, n, k, x, h, hst => by
    unfold readW at h
    cases ho : onW lw n b with
    | nil => simp [ho] at h
    | cons y l2 =>
      simp only [ho] at h
      have hm : ∀ z ∈ y :: l2, z ∈ lw ∧ z.name.data.toList[n]? = some b := fun z hz => by
        rw [← ho] at hz
        have := List.mem_filter.1 hz
        exact ⟨this.1, by simpa using this.2⟩
      split at h
      · rename_i hy
        rw [Prod.mk.injEq] at h
        obtain ⟨h1, h2⟩ := h
        subst h1
        have hx := readW_mem rest (y :: l2) (n + 1) x h2
        have ih := readW_ends rest (y :: l2) (n + 1) _ x (Prod.ext rfl h2) (hst.step ho hy)
        obtain ⟨hn, hb⟩ := List.getElem?_eq_some_iff.1 (hm x hx).2
        rw [List.take_succ_cons, ih, List.drop_eq_getElem_cons hn, hb]
      · rename_i hy
        rw [Prod.mk.injEq] at h
        obtain ⟨h1, h2⟩ := h
        injection h2 with h2
        subst h1; subst h2
        obtain ⟨hn, hb⟩ := List.getElem?_eq_some_iff.1 (hm y (List.mem_cons_self ..)).2
        have hyl : y.name.data.toList.length = y.name.size := by simp
        rw [List.take_succ_cons, List.take_zero, List.drop_eq_getElem_cons hn, hb, List.drop_of_length_le (by omega)]
theorem readArgs_back (r : Nat) (ih : ∀ (l : List UInt8) (k : Nat) (t : Ty), readT r l = (k, some t) → textT r t = l.take k ∧ ∃ q, measureT r t = some q) (l : List UInt8) :
    ∀ (left i k m : Nat) (acc res : List Ty), readArgs (readT r) l left i k acc = (m, some res) → i + left ≤ 2 →
    ∃ new, res = acc ++ new ∧ new.length = left ∧ l.take m = l.take k ++ textL (textT r) new i ∧ ∀ a ∈ new, ∃ q, measureT r a = some q
  | 0, i, k, m, acc, res, h, _ => by
    simp only [readArgs, Prod.mk.injEq, Option.some.injEq] at h
    obtain ⟨rfl, rfl⟩ := h
    exact ⟨[], by simp, rfl, by simp [textL], fun a ha => by simp at ha⟩
  | left + 1, i, k, m, acc, res, h, hi => by
    unfold readArgs at h
    split at h
    · rename_i hh
      cases hr : readT r (l.drop (k + 1)) with
      | mk j o =>
        rw [hr] at h
        cases o with
        | none => simp at h
        | some a =>
          simp only at h
          obtain ⟨new, h1, h2, h3, h4⟩ := readArgs_back r ih l left (i + 1) (k + 1 + j) m (acc ++ [a]) res h (by omega)
          obtain ⟨h5, h6⟩ := ih _ _ _ hr
          refine ⟨a :: new, by rw [h1]; simp, by simp [h2], ?_, fun b hb => ?_⟩
          · rw [h3]
            have hk := head_lt hh
            have hb : l[k]? = some (aheadB i) := by rw [← List.head?_drop]; exact hh
            have e : l.take (k + 1 + j) = l.take k ++ (aheadB i :: textT r a) := by
              rw [h5, List.take_add, List.take_add_one, hb]
              simp
            rw [e]
            simp [textL]
          · rcases List.mem_cons.1 hb with rfl | hb
            · exact h6
            · exact h4 b hb
    · simp at h
theorem measureL_some (f : Ty → Option Nat) : ∀ (l : List Ty) (m : Nat), (∀ a ∈ l, ∃ q, f a = some q) → ∃ q, measureL f l m = some q
  | [], m, _ => ⟨m, rfl⟩
  | a :: l, m, h => by
    obtain ⟨q, hq⟩ := h a (List.mem_cons_self ..)
    simp only [measureL, hq]
    exact measureL_some f l _ (fun b hb => h b (List.mem_cons_of_mem _ hb))
theorem read_back : ∀ (r : Nat) (l : List UInt8) (k : Nat) (t : Ty), readT r l = (k, some t) → textT r t = l.take k ∧ ∃ q, measureT r t = some q
  | 0, l, k, t, h => by simp [readT] at h
  | r + 1, l, k, t, h => by
    unfold readT at h
    cases hw : readW (fitW (r + 1 : Nat) words) 0 l with
    | mk k0 o =>
      rw [hw] at h
      cases o with
      | none => simp at h
      | some x =>
        simp only at h
        have hxw := (List.mem_filter.1 (readW_mem l (fitW (r + 1 : Nat) words) 0 x (by rw [hw]))).1
        have hxa := words_args x hxw
        have hen := readW_ends l _ 0 k0 x hw (St.start _)
        rw [List.drop_zero] at hen
        cases hp : readArgs (readT r) l x.args.toNat 0 k0 [] with
        | mk m o =>
          rw [hp] at h
          cases o with
          | none => simp [readEnd] at h
          | some res =>
            obtain ⟨new, h1, h2, h3, h4⟩ := readArgs_back r (read_back r) l _ 0 k0 m [] res hp (by omega)
            simp only [List.nil_append] at h1
            subst h1
            have hK := wordK_of hxw
            obtain ⟨q, hq⟩ := measureL_some (measureT r) res 0 h4
            have hme : measureT (r + 1) (.mk x.kind res) = some (q + 1) := by
              have hk1 : (Ty.mk x.kind res).kind = x.kind := rfl
              have hk2 : (Ty.mk x.kind res).args = res := rfl
              unfold measureT
              rw [hk1, hk2, hK]
              simp only
              rw [if_pos (by omega), hq]
              rfl
            have htx : textT (r + 1) (.mk x.kind res) = l.take m ++ (if 0 < res.length then [41] else []) := by
              have hk1 : (Ty.mk x.kind res).kind = x.kind := rfl
              have hk2 : (Ty.mk x.kind res).args = res := rfl
              unfold textT
              rw [hk1, hk2, hK, h3, hen]
              rfl
            simp only [readEnd] at h
            split at h
            · rename_i hpos
              split at h
              · rename_i hh
                simp only [Prod.mk.injEq, Option.some.injEq] at h
                obtain ⟨rfl, rfl⟩ := h
                refine ⟨?_, _, hme⟩
                have hb : l[m]? = some 41 := by rw [← List.head?_drop]; exact hh
                rw [htx, if_pos (by omega), List.take_add_one, hb]
                rfl
              · simp at h
            · rename_i hpos
              simp only [Prod.mk.injEq, Option.some.injEq] at h
              obtain ⟨rfl, rfl⟩ := h
              refine ⟨?_, _, hme⟩
              rw [htx, if_neg (by omega), List.append_nil]
theorem parse_back {l : List UInt8} {k : Nat} {t : Ty} (h : parseT l = (k, some t)) : textT 6 t = l ∧ ∃ q, measureT 6 t = some q := by
  unfold parseT at h
  cases hr : readT 6 l with
  | mk j o =>
    rw [hr] at h
    cases o with
    | none => simp at h
    | some t' =>
      simp only at h
      split at h
      · simp at h
      · simp only [Prod.mk.injEq, Option.some.injEq] at h
        obtain ⟨_, rfl⟩ := h
        obtain ⟨h1, h2⟩ := read_back 6 l j t' hr
        refine ⟨by rw [h1, List.take_of_length_le (by omega)], h2⟩
end Go.Proofs.YtllnamhgnbdkmaaGreatDoor.Knd
