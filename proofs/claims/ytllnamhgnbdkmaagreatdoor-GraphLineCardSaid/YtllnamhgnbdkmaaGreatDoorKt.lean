/-
Ported from the texts of layer 2: Txt: a right type is read back from its text; what is read has that text.
-/
import Derived.Test.YtllnamhgnbdkmaaGreatDoorKc
import Derived.Test.YtllnamhgnbdkmaaGreatDoorKd
namespace Go.Proofs.YtllnamhgnbdkmaaGreatDoor.Knd
open Go.RowKit
theorem words_one' : ∀ x ∈ words, ∀ y ∈ words, x.name.data.toList = y.name.data.toList → x.kind = y.kind ∧ x.args = y.args ∧ x.name = y.name := by decide
theorem words_one (x : Wd) (hx : x ∈ words) (y : Wd) (hy : y ∈ words) (h : x.name.data.toList = y.name.data.toList) : x = y := by
  obtain ⟨h1, h2, h3⟩ := words_one' x hx y hy h
  cases x; cases y
  simp only at h1 h2 h3
  rw [h1, h2, h3]
theorem wordK_self : ∀ x ∈ words, (wordK x.kind).map (fun y => (y.kind, y.args, y.name)) = some (x.kind, x.args, x.name) := by decide
theorem readW_word : ∀ (m : Nat) (lw : List Wd) (n : Nat) (x : Wd) (l : List UInt8), St lw n → x ∈ lw → x.name.size = n + 1 + m → l.take (m + 1) = x.name.data.toList.drop n → readW lw n l = (m + 1, some x)
  | m, lw, n, x, l, hst, hx, hm, hl => by
    have hlen : x.name.data.toList.length = x.name.size := by simp
    have hd : x.name.data.toList.drop n = x.name.data.toList[n]'(by omega) :: x.name.data.toList.drop (n + 1) := List.drop_eq_getElem_cons (by omega)
    cases l with
    | nil => rw [hd] at hl; simp at hl
    | cons b rest =>
      rw [hd, List.take_succ_cons, List.cons.injEq] at hl
      obtain ⟨hb, hr⟩ := hl
      have hxo : x ∈ onW lw n b := by
        refine List.mem_filter.2 ⟨hx, ?_⟩
        rw [List.getElem?_eq_getElem (by omega)]
        simp [hb]
      have hsame : ∀ y ∈ onW lw n b, y.name.data.toList.take (n + 1) = x.name.data.toList.take (n + 1) := fun y hy => by
        obtain ⟨h1, h2⟩ := List.mem_filter.1 hy
        obtain ⟨_, h3⟩ := List.mem_filter.1 hxo
        have e2 : y.name.data.toList[n]? = some b := by simpa using h2
        have e3 : x.name.data.toList[n]? = some b := by simpa using h3
        rw [List.take_add_one, List.take_add_one, e2, e3, hst.2 y h1 x hx]
      cases ho : onW lw n b with
      | nil => rw [ho] at hxo; simp at hxo
      | cons y l2 =>
        have hy : y ∈ onW lw n b := by rw [ho]; exact List.mem_cons_self ..
        have hy1 := hst.1 y (List.mem_filter.1 hy).1
        have hx1 := hst.1 x hx
        have hyl : y.name.data.toList.length = y.name.size := by simp
        unfold readW
        simp only [ho]
        cases m with
        | zero =>
          have e : x.name.data.toList = y.name.data.toList.take x.name.size := by
            rw [show x.name.size = n + 1 by omega, hsame y hy, List.take_of_length_le (by omega)]
          have hsz := words_apart x hx1.1 y hy1.1 e
          have hxy : y = x := words_one y hy1.1 x hx1.1 (by
            rw [e, hsz, List.take_of_length_le (by omega)])
          rw [if_neg (by omega), hxy]
        | succ m =>
          have hlt : n + 1 < y.name.size := by
            rcases Nat.lt_or_ge (n + 1) y.name.size with h | h
            · exact h
            · have e : y.name.data.toList = x.name.data.toList.take y.name.size := by
                rw [show y.name.size = n + 1 by omega, ← hsame y hy, List.take_of_length_le (by omega)]
              have := words_apart y hy1.1 x hx1.1 e
              omega
          have hst2 := hst.step ho hlt
          have := readW_word m (y :: l2) (n + 1) x rest hst2 (by rw [← ho]; exact hxo) (by omega) hr
          rw [if_pos hlt, this]
theorem wordK_of {x : Wd} (hx : x ∈ words) : wordK x.kind = some x := by
  have h := wordK_self x hx
  obtain ⟨y, hy, he⟩ := Option.map_eq_some_iff.1 h
  rw [hy]
  cases x; cases y
  simp only [Prod.mk.injEq] at he
  obtain ⟨h1, h2, h3⟩ := he
  rw [h1, h2, h3]
theorem readW_ends : ∀ (l : List UInt8) (lw : List Wd) (n k : Nat) (x : Wd), readW lw n l = (k, some x) → St lw n → l.take k = x.name.data.toList.drop n
  | [], lw, n, k, x, h, hst => by simp [readW] at h
  | b :: rest, lw, n, k, x, h, hst => by
    unfold readW at h
    cases ho : onW lw n b with
    | nil => simp [ho] at h
    | cons y l2 =>
      simp only [ho] at h
      have hm : ∀ z ∈ y :: l2, z ∈ lw ∧ z.name.data.toList[n]? = some b := fun z hz => by
        rw [← ho] at hz
        have := List.mem_filter.1 hz
        exact ⟨this.1, by simpa using this.2⟩
      split at h
      · rename_i hy
        rw [Prod.mk.injEq] at h
        obtain ⟨h1, h2⟩ := h
        subst h1
        have hx := readW_mem rest (y :: l2) (n + 1) x h2
        have ih := readW_ends rest (y :: l2) (n + 1) _ x (Prod.ext rfl h2) (hst.step ho hy)
        obtain ⟨hn, hb⟩ := List.getElem?_eq_some_iff.1 (hm x hx).2
        rw [List.take_succ_cons, ih, List.drop_eq_getElem_cons hn, hb]
      · rename_i hy
        rw [Prod.mk.injEq] at h
        obtain ⟨h1, h2⟩ := h
        injection h2 with h2
        subst h1; subst h2
        obtain ⟨hn, hb⟩ := List.getElem?_eq_some_iff.1 (hm y (List.mem_cons_self ..)).2
        have hyl : y.name.data.toList.length = y.name.size := by simp
        rw [List.take_succ_cons, List.take_zero, List.drop_eq_getElem_cons hn, hb, List.drop_of_length_le (by omega)]
theorem take_app {α : Type} (a b : List α) : (a ++ b).take a.length = a := by simp
theorem drop_app {α : Type} (a b : List α) (n : Nat) (h : n = a.length) : (a ++ b).drop n = b := by subst h; simp
theorem readArgs_text (r : Nat) (ih : ∀ (t : Ty) (q : Nat) (rest : List UInt8), measureT r t = some q → readT r (textT r t ++ rest) = ((textT r t).length, some t)) :
    ∀ (l : List Ty) (i : Nat) (pre rest : List UInt8) (acc : List Ty), (∀ a ∈ l, ∃ q, measureT r a = some q) → i + l.length ≤ 2 →
    readArgs (readT r) (pre ++ (textL (textT r) l i ++ rest)) l.length i pre.length acc = (pre.length + (textL (textT r) l i).length, some (acc ++ l))
  | [], i, pre, rest, acc, _, _ => by simp [readArgs, textL]
  | a :: l, i, pre, rest, acc, hall, hi => by
    obtain ⟨q, hq⟩ := hall a (List.mem_cons_self ..)
    have e1 : (pre ++ (textL (textT r) (a :: l) i ++ rest)).drop pre.length = aheadB i :: (textT r a ++ (textL (textT r) l (i + 1) ++ rest)) := by
      rw [drop_app _ _ _ rfl]; simp [textL]
    have e2 : (pre ++ (textL (textT r) (a :: l) i ++ rest)).drop (pre.length + 1) = textT r a ++ (textL (textT r) l (i + 1) ++ rest) := by
      rw [← List.drop_drop, e1]; rfl
    simp only [List.length_cons, readArgs]
    rw [e1, if_pos (by rfl), e2, ih a q _ hq]
    simp only
    have e3 : pre ++ (textL (textT r) (a :: l) i ++ rest) = (pre ++ aheadB i :: textT r a) ++ (textL (textT r) l (i + 1) ++ rest) := by simp [textL]
    have e4 : pre.length + 1 + (textT r a).length = (pre ++ aheadB i :: textT r a).length := by simp; omega
    rw [e3, e4, readArgs_text r ih l (i + 1) (pre ++ aheadB i :: textT r a) rest (acc ++ [a]) (fun b hb => hall b (List.mem_cons_of_mem _ hb)) (by simp only [List.length_cons] at hi; omega)]
    simp only [textL, List.length_append, List.length_cons, List.append_assoc, List.singleton_append, Prod.mk.injEq, and_true]
    omega
theorem measure_leaf {t : Ty} {q : Nat} (h : measureT 1 t = some q) : t.args = [] := by
  obtain ⟨x, _, _, _, hall⟩ := measure_right h
  cases ht : t.args with
  | nil => rfl
  | cons a l =>
    obtain ⟨q', hq⟩ := hall a (by rw [ht]; exact List.mem_cons_self ..)
    simp [measureT] at hq
theorem read_text : ∀ (r : Nat) (t : Ty) (q : Nat) (rest : List UInt8), measureT r t = some q → readT r (textT r t ++ rest) = ((textT r t).length, some t)
  | 0, t, q, rest, h => by simp [measureT] at h
  | r + 1, t, q, rest, h => by
    obtain ⟨x, hx, hxa, hxw, hall⟩ := measure_right h
    have hkd := (wordK_mem hx).2
    have ha := words_args x hxw
    have h6 := words_small x hxw
    have hnl : x.name.data.toList.length = x.name.size := by simp
    have hfit : x ∈ fitW ((r + 1 : Nat) : Int) words := by
      refine List.mem_filter.2 ⟨hxw, ?_⟩
      cases r with
      | zero =>
        have := measure_leaf h
        rw [this] at hxa
        simp at hxa
        simp [← hxa]
      | succ r => simp; omega
    have ht : textT (r + 1) t = x.name.data.toList ++ textL (textT r) t.args 0 ++ (if 0 < t.args.length then [41] else []) := by simp only [textT, hx, Option.getD_some]
    obtain ⟨m, hm⟩ : ∃ m, x.name.size = m + 1 := ⟨x.name.size - 1, by omega⟩
    have hw : readW (fitW ((r + 1 : Nat) : Int) words) 0 (textT (r + 1) t ++ rest) = (m + 1, some x) := by
      refine readW_word m _ 0 x _ (St.start _) hfit (by omega) ?_
      rw [ht, List.append_assoc, List.append_assoc, List.drop_zero, ← hm, ← hnl, take_app]
    unfold readT
    rw [hw]
    simp only
    have hargs := readArgs_text r (fun t q rest h => read_text r t q rest h) t.args 0 x.name.data.toList ((if 0 < t.args.length then [41] else []) ++ rest) [] hall (by omega)
    rw [hnl, hm] at hargs
    have e5 : textT (r + 1) t ++ rest = x.name.data.toList ++ (textL (textT r) t.args 0 ++ ((if 0 < t.args.length then [41] else []) ++ rest)) := by rw [ht]; simp
    have e6 : x.args.toNat = t.args.length := by omega
    rw [e5, e6, hargs]
    have hty : Ty.mk x.kind t.args = t := by rw [hkd]; cases t; rfl
    have hd : (x.name.data.toList ++ (textL (textT r) t.args 0 ++ ((if 0 < t.args.length then [41] else []) ++ rest))).drop (m + 1 + (textL (textT r) t.args 0).length) = (if 0 < t.args.length then [41] else []) ++ rest := by
      rw [← List.append_assoc]
      exact drop_app _ _ _ (by simp; omega)
    simp only [readEnd, List.nil_append]
    have htl : (textT (r + 1) t).length = m + 1 + (textL (textT r) t.args 0).length + (if 0 < t.args.length then [(41 : UInt8)] else []).length := by
      rw [ht]; simp only [List.length_append]; omega
    by_cases hp : 0 < t.args.length
    · rw [if_pos (by omega : 0 < x.args), hd, if_pos hp, htl, if_pos hp]
      simp [hty]
    · rw [if_neg (by omega : ¬ 0 < x.args), htl, if_neg hp]
      simp [hty]
theorem readArgs_back (r : Nat) (ih : ∀ (l : List UInt8) (k : Nat) (t : Ty), readT r l = (k, some t) → textT r t = l.take k ∧ ∃ q, measureT r t = some q) (l : List UInt8) :
    ∀ (left i k m : Nat) (acc res : List Ty), readArgs (readT r) l left i k acc = (m, some res) → i + left ≤ 2 →
    ∃ new, res = acc ++ new ∧ new.length = left ∧ l.take m = l.take k ++ textL (textT r) new i ∧ ∀ a ∈ new, ∃ q, measureT r a = some q
  | 0, i, k, m, acc, res, h, _ => by
    simp only [readArgs, Prod.mk.injEq, Option.some.injEq] at h
    obtain ⟨rfl, rfl⟩ := h
    exact ⟨[], by simp, rfl, by simp [textL], fun a ha => by simp at ha⟩
  | left + 1, i, k, m, acc, res, h, hi => by
    unfold readArgs at h
    split at h
    · rename_i hh
      cases hr : readT r (l.drop (k + 1)) with
      | mk j o =>
        rw [hr] at h
        cases o with
        | none => simp at h
        | some a =>
          simp only at h
          obtain ⟨new, h1, h2, h3, h4⟩ := readArgs_back r ih l left (i + 1) (k + 1 + j) m (acc ++ [a]) res h (by omega)
          obtain ⟨h5, h6⟩ := ih _ _ _ hr
          refine ⟨a :: new, by rw [h1]; simp, by simp [h2], ?_, fun b hb => ?_⟩
          · rw [h3]
            have hk := head_lt hh
            have hb : l[k]? = some (aheadB i) := by rw [← List.head?_drop]; exact hh
            have e : l.take (k + 1 + j) = l.take k ++ (aheadB i :: textT r a) := by
              rw [h5, List.take_add, List.take_add_one, hb]
              simp
            rw [e]
            simp [textL]
          · rcases List.mem_cons.1 hb with rfl | hb
            · exact h6
            · exact h4 b hb
    · simp at h
theorem measureL_some (f : Ty → Option Nat) : ∀ (l : List Ty) (m : Nat), (∀ a ∈ l, ∃ q, f a = some q) → ∃ q, measureL f l m = some q
  | [], m, _ => ⟨m, rfl⟩
  | a :: l, m, h => by
    obtain ⟨q, hq⟩ := h a (List.mem_cons_self ..)
    simp only [measureL, hq]
    exact measureL_some f l _ (fun b hb => h b (List.mem_cons_of_mem _ hb))
theorem read_back : ∀ (r : Nat) (l : List UInt8) (k : Nat) (t : Ty), readT r l = (k, some t) → textT r t = l.take k ∧ ∃ q, measureT r t = some q
  | 0, l, k, t, h => by simp [readT] at h
  | r + 1, l, k, t, h => by
    unfold readT at h
    cases hw : readW (fitW (r + 1 : Nat) words) 0 l with
    | mk k0 o =>
      rw [hw] at h
      cases o with
      | none => simp at h
      | some x =>
        simp only at h
        have hxw := (List.mem_filter.1 (readW_mem l (fitW (r + 1 : Nat) words) 0 x (by rw [hw]))).1
        have hxa := words_args x hxw
        have hen := readW_ends l _ 0 k0 x hw (St.start _)
        rw [List.drop_zero] at hen
        cases hp : readArgs (readT r) l x.args.toNat 0 k0 [] with
        | mk m o =>
          rw [hp] at h
          cases o with
          | none => simp [readEnd] at h
          | some res =>
            obtain ⟨new, h1, h2, h3, h4⟩ := readArgs_back r (read_back r) l _ 0 k0 m [] res hp (by omega)
            simp only [List.nil_append] at h1
            subst h1
            have hK := wordK_of hxw
            obtain ⟨q, hq⟩ := measureL_some (measureT r) res 0 h4
            have hme : measureT (r + 1) (.mk x.kind res) = some (q + 1) := by
              have hk1 : (Ty.mk x.kind res).kind = x.kind := rfl
              have hk2 : (Ty.mk x.kind res).args = res := rfl
              unfold measureT
              rw [hk1, hk2, hK]
              simp only
              rw [if_pos (by omega), hq]
              rfl
            have htx : textT (r + 1) (.mk x.kind res) = l.take m ++ (if 0 < res.length then [41] else []) := by
              have hk1 : (Ty.mk x.kind res).kind = x.kind := rfl
              have hk2 : (Ty.mk x.kind res).args = res := rfl
              unfold textT
              rw [hk1, hk2, hK, h3, hen]
              rfl
            simp only [readEnd] at h
            split at h
            · rename_i hpos
              split at h
              · rename_i hh
                simp only [Prod.mk.injEq, Option.some.injEq] at h
                obtain ⟨rfl, rfl⟩ := h
                refine ⟨?_, _, hme⟩
                have hb : l[m]? = some 41 := by rw [← List.head?_drop]; exact hh
                rw [htx, if_pos (by omega), List.take_add_one, hb]
                rfl
              · simp at h
            · rename_i hpos
              simp only [Prod.mk.injEq, Option.some.injEq] at h
              obtain ⟨rfl, rfl⟩ := h
              refine ⟨?_, _, hme⟩
              rw [htx, if_neg (by omega), List.append_nil]
theorem parse_text {t : Ty} {q : Nat} (h : measureT 6 t = some q) : parseT (textT 6 t) = (0, some t) := by
  have := read_text 6 t q [] h
  rw [List.append_nil] at this
  unfold parseT
  rw [this]
  simp
theorem parse_back {l : List UInt8} {k : Nat} {t : Ty} (h : parseT l = (k, some t)) : textT 6 t = l ∧ ∃ q, measureT 6 t = some q := by
  unfold parseT at h
  cases hr : readT 6 l with
  | mk j o =>
    rw [hr] at h
    cases o with
    | none => simp at h
    | some t' =>
      simp only at h
      split at h
      · simp at h
      · simp only [Prod.mk.injEq, Option.some.injEq] at h
        obtain ⟨_, rfl⟩ := h
        obtain ⟨h1, h2⟩ := read_back 6 l j t' hr
        refine ⟨by rw [h1, List.take_of_length_le (by omega)], h2⟩
end Go.Proofs.YtllnamhgnbdkmaaGreatDoor.Knd
