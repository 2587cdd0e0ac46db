import Derived.Test.YtaecndmncpfpfaaGreatDoorWu
import Derived.Test.YtaecndmncpfpfaaGreatDoorRp
import Derived.KernelRfl
import Derived.Test.YtaecndmncpfpfaaGreatDoorSm
namespace Go.Proofs.YtaecndmncpfpfaaGreatDoor
open Go.RowKit
theorem itoa_1 : Lib.itoa 1 = [49] := by
 unfold Lib.itoa
 rw [if_neg (by decide), Lib.decDigits, dif_pos (by decide)]
 rfl
end Go.Proofs.YtaecndmncpfpfaaGreatDoor
namespace Go.Proofs.YtaecndmncpfpfaaGreatDoor
open Go.RowKit
def Free (r : Nat) (n : Nd) : Prop := ∀ s s' : StW, termW r n s = some s' → ∃ t c, s' = (s.1 ++ t, s.2 + c) ∧ ∀ r', r ≤ r' → ∀ s2 : StW, s2.1.length ≤ s.1.length → termW r' n s2 = some (s2.1 ++ t, s2.2 + c)
theorem kidsW_free {r r' : Nat} (hr : r ≤ r') : ∀ (l : List Nd) (p : List UInt8) (mark : UInt8) (s s' : StW), (∀ n ∈ l, Free r n) → kidsW (termW r) l p mark s = some s' → ∃ t c, s' = (s.1 ++ t, s.2 + c) ∧ ∀ s2 : StW, s2.1.length ≤ s.1.length → kidsW (termW r') l p mark s2 = some (s2.1 ++ t, s2.2 + c)
 | [], _, _, s, s', _, h => by
   simp only [kidsW, Option.some.injEq] at h
   subst h
   exact ⟨[41], 0, rfl, fun s2 _ => rfl⟩
 | _ :: _, [], _, _, _, _, h => by simp [kidsW] at h
 | n :: l, p :: ps, mark, s, s', hf, h => by
   unfold kidsW at h
   split at h
   · cases h
   · rename_i hn
     split at h
     · cases h
     · rename_i s1 h1
       obtain ⟨t, c, e1, g1⟩ := hf n (List.mem_cons_self ..) _ _ h1
       obtain ⟨t', c', e2, g2⟩ := kidsW_free hr l ps 44 s1 s' (fun m hm => hf m (List.mem_cons_of_mem _ hm)) h
       subst e1
       refine ⟨mark :: (t ++ t'), c + c', by rw [e2]; simp [Nat.add_assoc], fun s2 hs2 => ?_⟩
       rw [kidsW, if_neg hn, g1 r' hr (s2.1 ++ [mark], s2.2) (by simp; omega)]
       simp only
       rw [g2 _ (by simp; omega)]
       simp [Nat.add_assoc]
theorem wordP_free {r r' : Nat} (hr : r ≤ r') {p : List UInt8} {least : Nat} {n : Nd} {s s' : StW} (hf : ∀ k ∈ n.kids, Free r k) (h : wordP (termW r) p least n s = some s') : ∃ t c, s' = (s.1 ++ t, s.2 + c) ∧ ∀ s2 : StW, s2.1.length ≤ s.1.length → wordP (termW r') p least n s2 = some (s2.1 ++ t, s2.2 + c) := by
 unfold wordP at h ⊢
 split at h
 · rename_i h1
   split at h
   · cases h
   · rename_i h2
     obtain ⟨s1, e1, e2⟩ := Option.bind_eq_some_iff.1 h
     split at e2
     · rename_i h3
       injection e2 with e2
       subst e2
       obtain ⟨t, c, e, g⟩ := kidsW_free hr n.kids p 40 _ _ hf e1
       subst e
       refine ⟨n.op ++ t, c, by simp, fun s2 hs2 => ?_⟩
       rw [if_pos h1, if_neg h2, g (s2.1 ++ n.op, s2.2) (by simp; omega)]
       simp [h3]
     · cases e2
 · rename_i h1
   split at h
   · rename_i h2
     split at h
     · cases h
     · rename_i h3
       split at h
       · rename_i h4
         injection h with h
         subst h
         refine ⟨n.op ++ ([40] ++ Lib.itoa n.int ++ [41]), 0, by simp, fun s2 hs2 => ?_⟩
         rw [if_neg h1, if_pos h2, if_neg h3, if_pos h4]
         simp
       · cases h
   · rename_i h2
     split at h
     · rename_i h3
       split at h
       · rename_i h4
         split at h
         · rename_i h5
           injection h with h
           subst h
           refine ⟨n.op ++ ([40] ++ Knd.textT 6 n.ty ++ [41]), 0, by simp, fun s2 hs2 => ?_⟩
           rw [if_neg h1, if_neg h2, if_pos h3, if_pos h4, if_pos h5]
           simp
         · cases h
       · cases h
     · rename_i h3
       split at h
       · rename_i h4
         injection h with h
         subst h
         refine ⟨n.op, 0, rfl, fun s2 hs2 => ?_⟩
         rw [if_neg h1, if_neg h2, if_neg h3, if_pos h4]
         rfl
       · cases h
theorem term_free : ∀ (r : Nat) (n : Nd), Free r n
 | 0, n => fun s s' h => by simp [termW] at h
 | r + 1, n => fun s s' h => by
   have hk : ∀ k ∈ n.kids, Free r k := fun k _ => term_free r k
   unfold termW at h
   split at h
   · cases h
   · rename_i hs
     have key : ∀ (t : List UInt8) (c : Nat), (∀ r', r + 1 ≤ r' → ∀ s2 : StW, s2.1.length ≤ s.1.length → termW r' n s2 = some (s2.1 ++ t, s2.2 + c)) → s' = (s.1 ++ t, s.2 + c) → ∃ t c, s' = (s.1 ++ t, s.2 + c) ∧ ∀ r', r + 1 ≤ r' → ∀ s2 : StW, s2.1.length ≤ s.1.length → termW r' n s2 = some (s2.1 ++ t, s2.2 + c) := fun t c h1 h2 => ⟨t, c, h2, h1⟩
     split at h
     · rename_i h1
       split at h
       · rename_i h2
         injection h with h
         refine key (Lib.itoa n.int) 1 (fun r' hr' s2 hs2 => ?_) h.symm
         obtain ⟨r'', rfl⟩ : ∃ x, r' = x + 1 := ⟨r' - 1, by omega⟩
         unfold termW
         rw [if_neg (by omega), if_pos h1, if_pos h2]
       · cases h
     · rename_i h1
       split at h
       · rename_i h2
         split at h
         · cases h
         · rename_i h3
           split at h
           · rename_i h4
             injection h with h
             refine key (quoS n.text) 1 (fun r' hr' s2 hs2 => ?_) h.symm
             obtain ⟨r'', rfl⟩ : ∃ x, r' = x + 1 := ⟨r' - 1, by omega⟩
             unfold termW
             rw [if_neg (by omega), if_neg h1, if_pos h2, if_neg h3, if_pos h4]
           · cases h
       · rename_i h2
         split at h
         · rename_i h3
           split at h
           · rename_i h4
             split at h
             · rename_i h5
               injection h with h
               refine key n.text 1 (fun r' hr' s2 hs2 => ?_) h.symm
               obtain ⟨r'', rfl⟩ : ∃ x, r' = x + 1 := ⟨r' - 1, by omega⟩
               unfold termW
               rw [if_neg (by omega), if_neg h1, if_neg h2, if_pos h3, if_pos h4, if_pos h5]
             · cases h
           · cases h
         · rename_i h3
           unfold wordW at h
           split at h
           · cases h
           · rename_i p least hw
             obtain ⟨t, c, e, _⟩ := wordP_free (Nat.le_refl r) hk h
             refine key t (c + 1) (fun r' hr' s2 hs2 => ?_) (by rw [e]; simp; omega)
             obtain ⟨r'', rfl⟩ : ∃ x, r' = x + 1 := ⟨r' - 1, by omega⟩
             unfold termW
             rw [if_neg (by omega), if_neg h1, if_neg h2, if_neg h3]
             unfold wordW
             rw [hw]
             obtain ⟨t', c', e', g'⟩ := wordP_free (r' := r'') (by omega) hk h
             rw [e] at e'
             simp only [Prod.mk.injEq] at e'
             obtain ⟨ea, eb⟩ := e'
             have ea' := List.append_cancel_left ea
             have eb' : c = c' := by omega
             subst ea'; subst eb'
             show wordP (termW r'') p least n (s2.1, s2.2 + 1) = _
             rw [g' (s2.1, s2.2 + 1) hs2]
             simp
             omega
def cntW (n : Nd) : Nat := ((showW n).map (·.2)).getD 0
theorem kid_show {r : Nat} {n : Nd} {s s' : StW} (hr : r ≤ 24) (h : termW r n s = some s') (hl : s'.1.length ≤ 4096) : (showW n).isSome = true ∧ s'.2 = s.2 + cntW n ∧ s.1.length ≤ s'.1.length := by
 obtain ⟨t, c, e, g⟩ := term_free r n s s' h
 have g2 := g 24 hr ([], 0) (Nat.zero_le _)
 subst e
 simp only [List.length_append] at hl
 have hsh : showW n = some (t, c) := by
  unfold showW
  rw [g2]
  simp only [List.nil_append, Nat.zero_add]
  rw [if_neg (by omega)]
 refine ⟨by rw [hsh]; rfl, by unfold cntW; rw [hsh]; rfl, by simp⟩
theorem kids_show {r : Nat} (hr : r ≤ 24) : ∀ (l : List Nd) (p : List UInt8) (mark : UInt8) (s s' : StW), kidsW (termW r) l p mark s = some s' → s'.1.length ≤ 4096 → (∀ k ∈ l, (showW k).isSome = true) ∧ s'.2 = s.2 + (l.map cntW).sum ∧ s.1.length ≤ s'.1.length
 | [], _, _, s, s', h, _ => by
   simp only [kidsW, Option.some.injEq] at h
   subst h
   exact ⟨fun k hk => (by cases hk), by simp, by simp⟩
 | _ :: _, [], _, _, _, h, _ => by simp [kidsW] at h
 | n :: l, p :: ps, mark, s, s', h, hl => by
   unfold kidsW at h
   split at h
   · cases h
   · split at h
     · cases h
     · rename_i s1 h1
       obtain ⟨g1, g2, g3⟩ := kids_show hr l ps 44 s1 s' h hl
       obtain ⟨k1, k2, k3⟩ := kid_show hr h1 (by omega)
       simp only [List.length_append] at k3
       refine ⟨fun k hk => ?_, by rw [g2, k2]; simp; omega, by omega⟩
       rcases List.mem_cons.1 hk with rfl | hk
       · exact k1
       · exact g1 k hk
theorem bare_kids {i : Int} {t : List UInt8} {ty : Ty} {kids : List Nd} (h : bareN i t ty kids = true) : kids = [] := by
 unfold bareN at h
 simp only [Bool.and_eq_true, decide_eq_true_eq] at h
 exact List.eq_nil_of_length_eq_zero h.2.2.2.2
theorem sizes_pure {n : Nd} {x : StW} (h : showW n = some x) : (∀ k ∈ n.kids, (showW k).isSome = true) ∧ x.2 = 1 + (n.kids.map cntW).sum ∧ x.2 ≤ 4096 := by
 unfold showW at h
 split at h
 · cases h
 · rename_i s e
   split at h
   · cases h
   · rename_i hl
     injection h with h
     subst h
     have hc := termW_cnt 24 n ([], 0) s e (Nat.le_refl _)
     have leaf : n.kids = [] → s.2 = 1 → (∀ k ∈ n.kids, (showW k).isSome = true) ∧ s.2 = 1 + (n.kids.map cntW).sum ∧ s.2 ≤ 4096 := fun h1 h2 => ⟨fun k hk => (by rw [h1] at hk; cases hk), by rw [h1, h2]; rfl, by omega⟩
     rw [termW_op 23 n [] 0 (by simp)] at e
     split at e
     · split at e
       · rename_i hb
         injection e with e
         exact leaf (bare_kids hb) (by rw [← e])
       · cases e
     · split at e
       · split at e
         · cases e
         · split at e
           · rename_i hb
             injection e with e
             exact leaf (bare_kids hb) (by rw [← e])
           · cases e
       · split at e
         · split at e
           · split at e
             · rename_i hb
               injection e with e
               exact leaf (bare_kids hb) (by rw [← e])
             · cases e
           · cases e
         · unfold wordW at e
           split at e
           · cases e
           · rename_i p least hw
             unfold wordP at e
             split at e
             · split at e
               · cases e
               · obtain ⟨s1, e1, e2⟩ := Option.bind_eq_some_iff.1 e
                 split at e2
                 · injection e2 with e2
                   subst e2
                   obtain ⟨g1, g2, _⟩ := kids_show (by omega) n.kids p 40 _ _ e1 (by omega)
                   exact ⟨g1, by rw [g2], by omega⟩
                 · cases e2
             · split at e
               · split at e
                 · cases e
                 · split at e
                   · rename_i hb
                     injection e with e
                     exact leaf (bare_kids hb) (by rw [← e])
                   · cases e
               · split at e
                 · split at e
                   · split at e
                     · rename_i hb
                       injection e with e
                       exact leaf (bare_kids hb) (by rw [← e])
                     · cases e
                   · cases e
                 · split at e
                   · rename_i hb
                     injection e with e
                     exact leaf (bare_kids hb) (by rw [← e])
                   · cases e
end Go.Proofs.YtaecndmncpfpfaaGreatDoor
namespace Go.Proofs.YtaecndmncpfpfaaGreatDoor
open Go.RowKit
def CkOut (e : Ending) : Option StW → Prop
 | none => e = .returned (.int .i64 110)
 | some _ => e = .returned (.int .i64 0)
set_option maxRecDepth 100000 in
set_option maxHeartbeats 2000000 in
theorem exprCheck_any (d : Nat) (S : Nat → Prop) (v : Value) (n : Nd) (w : World) (hN : NdAt w S d v n) (hR : RgN 24 n) (hG : Gl w) :
    Calls Tryz.prog 27 #[v] w fun e w' => CkOut e (showW n) ∧ Below w.heap.size w w' := by
 obtain ⟨A, c, K, kc, rfl⟩ := hN.form
 have hGl := hG.lt2
 have hba := (Below.refl w.heap.size w).alloc (Nat.le_refl _) (.cells #[.string ⟨n.op.toArray⟩, .int .i64 n.int, .string ⟨n.text.toArray⟩, .int .i64 n.ty.kind, .slice A n.ty.args.length c, .slice K n.kids.length kc] 41)
 have hs1 : (w.alloc (.cells #[.string ⟨n.op.toArray⟩, .int .i64 n.int, .string ⟨n.text.toArray⟩, .int .i64 n.ty.kind, .slice A n.ty.args.length c, .slice K n.kids.length kc] 41)).heap.size = w.heap.size + 1 := by simp
 have hT := written_any d S _ n _ (NdAt.below hN ((Below.refl _ w).alloc (Nat.le_refl _) (.cells #[.string ⟨n.op.toArray⟩, .int .i64 n.int, .string ⟨n.text.toArray⟩, .int .i64 n.ty.kind, .slice A n.ty.args.length c, .slice K n.kids.length kc] 41))) hR (hG.below hba hGl)
 have HT := Lib.hid hT
 have HBA := Lib.hid hba
 clear hN hG hR hT hba
 go_enter Tryz.func27, Tryz.ntmps27
 go_wp2_with (fail)
 refine HT.out.mono ?_
 clear HT
 generalize w.alloc (.cells #[.string ⟨n.op.toArray⟩, .int .i64 n.int, .string ⟨n.text.toArray⟩, .int .i64 n.ty.kind, .slice A n.ty.args.length c, .slice K n.kids.length kc] 41) = w1 at *
 intro e w2 h2
 revert h2
 cases hq : showW n with
 | none =>
   intro h2
   have HQ := Lib.hid hq
   clear hq
   obtain ⟨rfl, hb2⟩ := h2
   have HB2 := Lib.hid (HBA.out.trans (hb2.mono (by omega)))
   clear hb2
   go_wp2_with (fail)
   go_ret
   rw [HQ.out]
   exact ⟨rfl, HB2.out⟩
 | some s =>
   intro h2
   have HQ := Lib.hid hq
   clear hq
   obtain ⟨b, hb, rfl, hw2, hb2, hne⟩ := h2
   have HB2 := Lib.hid (HBA.out.trans (hb2.mono (by omega)))
   clear hb2 hw2 hne
   go_wp2_with (fail)
   go_ret
   rw [HQ.out]
   exact ⟨rfl, HB2.out⟩
