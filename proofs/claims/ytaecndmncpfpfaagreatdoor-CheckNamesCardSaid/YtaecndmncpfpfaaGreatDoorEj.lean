import Derived.Test.YtaecndmncpfpfaaGreatDoorSzp
import Derived.Test.YtaecndmncpfpfaaGreatDoorDd
set_option linter.unusedVariables false
set_option linter.unusedSimpArgs false
namespace Go.Proofs.YtaecndmncpfpfaaGreatDoor
open Go.RowKit
theorem kidsW_each {f : Nd → StW → Option StW} : ∀ (l : List Nd) (p : List UInt8) (m : UInt8) (s s' : StW), yD f l p m s = some s' → ∀ k ∈ l, ∃ s1 s2, f k s1 = some s2
 | [], _, _, _, _, _, k, hk => by cases hk
 | _ :: _, [], _, _, _, h, _, _ => by simp [yD] at h
 | n :: l, p :: ps, m, s, s', h, k, hk => by
   unfold yD at h
   split at h
   · cases h
   · cases hf : f n (s.1 ++ [m], s.2) with
     | none => rw [hf] at h; cases h
     | some s1 =>
       rw [hf] at h
       rcases List.mem_cons.1 hk with rfl | hk
       · exact ⟨_, _, hf⟩
       · exact kidsW_each l ps 44 s1 s' h k hk
theorem dp_more : ∀ (r : Nat) (t : Ty), Dp r t → Dp (r + 1) t
 | 0, _, h => h.elim
 | r + 1, t, h => ⟨h.1, fun a ha => dp_more r a (h.2 a ha)⟩
theorem measure_dp : ∀ (r : Nat) (t : Ty) (d : Nat), Knd.zH r t = some d → Dp r t
 | 0, t, d, h => by simp [Knd.zH] at h
 | r + 1, t, d, h => by
   obtain ⟨x, hx, hl, hd, ha⟩ := Knd.measure_right h
   refine ⟨?_, fun a haa => ?_⟩
   · have h2 : x.args ≤ 2 := (show ∀ y ∈ Knd.words, y.args ≤ 2 by decide) x hd
     omega
   · obtain ⟨q, hq⟩ := ha a haa
     exact measure_dp r a q hq
theorem wordW_out {f : Nd → StW → Option StW} {n : Nd} {s s' : StW} (h : wordW f n s = some s') : ∃ p least, wdP n.op = some (p, least) ∧ p.length ≤ 64 ∧
    (hasB p 101 = true → least ≤ n.kids.length ∧ n.kids.length ≤ p.length ∧ ∀ k ∈ n.kids, ∃ s1 s2, f k s1 = some s2) ∧
    (hasB p 101 = false → n.kids = [] ∧ (hasB p 100 = true → 0 ≤ n.int) ∧ (hasB p 100 = false → hasB p 116 = true → RT n.ty)) := by
 unfold wordW at h
 cases hw : wdP n.op with
 | none => rw [hw] at h; cases h
 | some x =>
   obtain ⟨p, least⟩ := x
   rw [hw] at h
   simp only at h
   refine ⟨p, least, rfl, (wdP_ok hw).1, ?_, ?_⟩
   · intro he
     unfold wordP at h
     rw [if_pos he] at h
     split at h
     · cases h
     · rename_i hc
       cases hk : yD f n.kids p 40 (s.1 ++ n.op, s.2) with
       | none => rw [hk] at h; cases h
       | some s1 => exact ⟨by omega, by omega, kidsW_each _ _ _ _ _ hk⟩
   · intro he
     unfold wordP at h
     rw [if_neg (by rw [he]; exact Bool.false_ne_true)] at h
     by_cases hd : hasB p 100 = true
     · rw [if_pos hd] at h
       split at h
       · cases h
       · split at h
         · rename_i hb
           exact ⟨yG hb, fun _ => by omega, fun h0 => absurd hd (by rw [h0]; exact Bool.false_ne_true)⟩
         · cases h
     · rw [if_neg hd] at h
       by_cases ht : hasB p 116 = true
       · rw [if_pos ht] at h
         split at h
         · rename_i hm
           split at h
           · rename_i hb
             exact ⟨yG hb, fun h1 => absurd h1 hd, fun _ _ => hm⟩
           · cases h
         · cases h
       · rw [if_neg ht] at h
         split at h
         · rename_i hb
           exact ⟨yG hb, fun h1 => absurd h1 hd, fun _ h2 => absurd h2 ht⟩
         · cases h
theorem inf_bare {r : Nat} {n : Nd} (hk : n.kids = []) (h1 : n.op ≠ [115, 105, 100, 101]) (h2 : n.op ≠ [108, 101, 116]) (h3 : n.op ≠ [109, 97, 112]) (h4 : n.op ≠ [102, 105, 108, 116, 101, 114]) (h5 : n.op ≠ [102, 111, 108, 100]) (h6 : n.op ≠ [110, 105, 108]) (h7 : n.op ≠ [110, 111, 110, 101]) : InfOk FOk (r + 1) n :=
 ⟨by rw [hk]; simp, fun h => absurd h h1, fun h => absurd h h2, fun h => (h.elim (absurd · h3) (absurd · h4)), fun h => absurd h h5, fun _ => ⟨by rw [hk]; simp, fun h => (h.elim (absurd · h6) (absurd · h7))⟩, fun i k h => by rw [hk] at h; cases h⟩
theorem inf_ok : ∀ (r : Nat) (n : Nd) (s s' : StW), zJ r n s = some s' → InfOk FOk r n
 | 0, _, _, _, h => by simp [zJ] at h
 | r + 1, n, s, s', h => by
   unfold zJ at h
   split at h
   · cases h
   split at h
   · rename_i ho
     split at h
     · rename_i hb
       exact inf_bare (yG hb) (by rw [ho]; decide) (by rw [ho]; decide) (by rw [ho]; decide) (by rw [ho]; decide) (by rw [ho]; decide) (by rw [ho]; decide) (by rw [ho]; decide)
     · cases h
   split at h
   · rename_i ho
     split at h
     · cases h
     split at h
     · rename_i hb
       exact inf_bare (yG hb) (by rw [ho]; decide) (by rw [ho]; decide) (by rw [ho]; decide) (by rw [ho]; decide) (by rw [ho]; decide) (by rw [ho]; decide) (by rw [ho]; decide)
     · cases h
   split at h
   · rename_i ho
     split at h
     · split at h
       · rename_i hb
         exact inf_bare (yG hb) (by rw [ho]; decide) (by rw [ho]; decide) (by rw [ho]; decide) (by rw [ho]; decide) (by rw [ho]; decide) (by rw [ho]; decide) (by rw [ho]; decide)
       · cases h
     · cases h
   obtain ⟨p, least, hw, hp, he, hne⟩ := wordW_out h
   have hk64 : n.kids.length ≤ 64 := by
    cases hb : hasB p 101 with
    | true => have := (he hb).2.1; omega
    | false => rw [(hne hb).1]; simp
   have fix : ∀ (op q : List UInt8) (m : Nat), wdP op = some (q, m) → n.op = op → p = q ∧ least = m := fun op q m hq ho => by
    rw [ho, hq] at hw
    injection hw with hw
    injection hw with h1 h2
    exact ⟨h1.symm, h2.symm⟩
   have num : ∀ (op q : List UInt8) (m : Nat), wdP op = some (q, m) → n.op = op → hasB q 101 = true → q.length = m → n.kids.length = m := fun op q m hq ho hb hl => by
    obtain ⟨rfl, rfl⟩ := fix op q m hq ho
    have := he hb
    omega
   refine ⟨hk64, fun ho => ?_, fun ho => num _ [110, 101, 101] 3 (by decide) ho (by decide) rfl, fun ho => ?_, fun ho => num _ [101, 101, 110, 110, 101] 5 (by decide) ho (by decide) rfl, fun _ => ⟨hk64, fun ho => ?_⟩, fun i k hk => ?_⟩
   · obtain ⟨rfl, rfl⟩ := fix _ [100] 1 (by decide) ho
     exact (hne (by decide)).2.1 (by decide)
   · rcases ho with ho | ho
     · exact num _ [101, 110, 101] 3 (by decide) ho (by decide) rfl
     · exact num _ [101, 110, 101] 3 (by decide) ho (by decide) rfl
   · have hr : RT n.ty := by
       rcases ho with ho | ho
       · obtain ⟨rfl, rfl⟩ := fix _ [116] 1 (by decide) ho
         exact (hne (by decide)).2.2 (by decide) (by decide)
       · obtain ⟨rfl, rfl⟩ := fix _ [116] 1 (by decide) ho
         exact (hne (by decide)).2.2 (by decide) (by decide)
     obtain ⟨q, hq⟩ := Option.isSome_iff_exists.1 hr
     exact dp_more _ _ (dp_more _ _ (measure_dp 6 _ q hq))
   · cases hb : hasB p 101 with
     | true =>
       obtain ⟨s1, s2, h12⟩ := (he hb).2.2 k (List.mem_of_getElem? hk)
       exact inf_ok r k s1 s2 h12
     | false => rw [(hne hb).1] at hk; cases hk
theorem show_inf {n : Nd} (h : (showW n).isSome = true) : InfOk FOk 24 n := by
 unfold showW at h
 cases ht : zJ 24 n ([], 0) with
 | none => rw [ht] at h; cases h
 | some s => exact inf_ok 24 n _ s ht
end Go.Proofs.YtaecndmncpfpfaaGreatDoor
set_option linter.unusedVariables false
set_option linter.unusedSimpArgs false
namespace Go.Proofs.YtaecndmncpfpfaaGreatDoor
open Go.RowKit
def resI (it : Ty) (sides : List Ty) (n : Nd) : Except (Int × List Int) Ty := zM zS it sides 24 [] [] n
