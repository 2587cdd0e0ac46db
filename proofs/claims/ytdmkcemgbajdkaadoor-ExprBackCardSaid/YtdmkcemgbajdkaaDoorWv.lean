/-
Package expr: written, Show, Check, Size.
-/
import Derived.Test.YtdmkcemgbajdkaaDoorWu
namespace Go.Proofs.YtdmkcemgbajdkaaDoor
open Go.RowKit
open Knd (BFr)

theorem kidsW_pos {f : Nd → StW → Option StW} : ∀ (l : List Nd) (p : List UInt8) (mark : UInt8) (s s' : StW), (∀ n ∈ l, ∀ s s', f n s = some s' → s.1.length < s'.1.length) → kidsW f l p mark s = some s' → s.1.length < s'.1.length
  | [], _, _, s, s', _, h => by
    simp only [kidsW, Option.some.injEq] at h
    subst h
    simp
  | _ :: _, [], _, _, _, _, h => by simp [kidsW] at h
  | n :: l, p :: ps, mark, s, s', hf, h => by
    unfold kidsW at h
    split at h
    · cases h
    · split at h
      · cases h
      · rename_i s2 h2
        have h3 := kidsW_pos l ps 44 s2 s' (fun m hm => hf m (List.mem_cons_of_mem _ hm)) h
        have h4 := hf n (List.mem_cons_self ..) _ _ h2
        simp at h4
        omega
theorem wordW_pos {f : Nd → StW → Option StW} {n : Nd} {s s' : StW} (hf : ∀ k ∈ n.kids, ∀ s s', f k s = some s' → s.1.length < s'.1.length) (h : wordW f n s = some s') : s.1.length < s'.1.length := by
  unfold wordW at h
  cases hw : wdP n.op with
  | none => rw [hw] at h; cases h
  | some x =>
    obtain ⟨p, least⟩ := x
    have ho := wd_pos hw
    rw [hw] at h
    simp only [wordP] at h
    by_cases h1 : hasB p 101 = true
    · rw [if_pos h1] at h
      split at h
      · cases h
      · obtain ⟨s2, h2, h⟩ := Option.bind_eq_some_iff.1 h
        split at h
        · injection h with h
          subst h
          have := kidsW_pos n.kids p 40 _ _ hf h2
          simp at this
          omega
        · cases h
    · rw [if_neg h1] at h
      by_cases h3 : hasB p 100 = true
      · rw [if_pos h3] at h
        split at h
        · cases h
        · split at h
          · injection h with h
            subst h
            simp
            omega
          · cases h
      · rw [if_neg h3] at h
        by_cases h4 : hasB p 116 = true
        · rw [if_pos h4] at h
          split at h
          · split at h
            · injection h with h
              subst h
              simp
              omega
            · cases h
          · cases h
        · rw [if_neg h4] at h
          split at h
          · injection h with h
            subst h
            simp
            omega
          · cases h
theorem termW_pos : ∀ (r : Nat) (n : Nd) (s s' : StW), termW r n s = some s' → s.1.length < s'.1.length
  | 0, n, s, s', h => by simp [termW] at h
  | r + 1, n, s, s', h => by
    unfold termW at h
    split at h
    · cases h
    · split at h
      · split at h
        · injection h with h
          subst h
          have := itoa_pos n.int
          simp
          omega
        · cases h
      · split at h
        · split at h
          · cases h
          · split at h
            · injection h with h
              subst h
              simp [quoS]
            · cases h
        · split at h
          · split at h
            · rename_i hn
              split at h
              · injection h with h
                subst h
                have := name_pos hn
                simp
                omega
              · cases h
            · cases h
          · exact wordW_pos (s := (s.1, s.2 + 1)) (fun k _ s s' hk' => termW_pos r k s s' hk') h

/-- What written answers with. -/
def VrOut (w : World) (e : Ending) (w' : World) : Option StW → Prop
  | none => e = .returned (.tuple #[.pointer none, .int .i64 110]) ∧ Below w.heap.size w w'
  | some s => ∃ b, w.heap.size ≤ b ∧ e = .returned (.tuple #[.pointer (some ⟨b, 0, none⟩), .int .i64 0]) ∧ Wr w' b s.1 (s.2 : Int) ∧ Below w.heap.size w w' ∧ s.1 ≠ []

set_option maxRecDepth 100000 in
set_option maxHeartbeats 2000000 in
theorem written_any (d : Nat) (S : Nat → Prop) (v : Value) (n : Nd) (w : World) (hN : NdAt w S d v n) (hR : RgN 24 n) (hG : Gl w) :
    Calls Tryd.prog 18 #[v] w fun e w' => VrOut w e w' (showW n) := by
  obtain ⟨A, c, K, kc, rfl⟩ := hN.form
  have hGl := hG.kd.lt
  have HN0 : Hid (NdAt w (fun k => k < w.heap.size) d (.agg #[.string ⟨n.op.toArray⟩, .int .i64 n.int, .string ⟨n.text.toArray⟩, .int .i64 n.ty.kind, .slice A n.ty.args.length c, .slice K n.kids.length kc]) n) := NdAt.move (fun b _ hl => ⟨hl, fun _ => rfl⟩) d _ _ hN
  have HG := Lib.hid hG
  have HR := Lib.hid hR
  have hb0 := (Below.refl w.heap.size w).alloc (Nat.le_refl _) (.cells #[.string ⟨n.op.toArray⟩, .int .i64 n.int, .string ⟨n.text.toArray⟩, .int .i64 n.ty.kind, .slice A n.ty.args.length c, .slice K n.kids.length kc] 28)
  have hs0 : (w.alloc (.cells #[.string ⟨n.op.toArray⟩, .int .i64 n.int, .string ⟨n.text.toArray⟩, .int .i64 n.ty.kind, .slice A n.ty.args.length c, .slice K n.kids.length kc] 28)).heap.size = w.heap.size + 1 := by simp
  have hba := hb0.alloc (by omega : w.heap.size ≤ (w.alloc (.cells #[.string ⟨n.op.toArray⟩, .int .i64 n.int, .string ⟨n.text.toArray⟩, .int .i64 n.ty.kind, .slice A n.ty.args.length c, .slice K n.kids.length kc] 28)).heap.size) (.cells #[.pointer none, .slice none 0 0, .int .i64 0] 63)
  have HW1 : Hid (Wr ((w.alloc (.cells #[.string ⟨n.op.toArray⟩, .int .i64 n.int, .string ⟨n.text.toArray⟩, .int .i64 n.ty.kind, .slice A n.ty.args.length c, .slice K n.kids.length kc] 28)).alloc (.cells #[.pointer none, .slice none 0 0, .int .i64 0] 63)) (w.heap.size + 1) [] ((0 : Nat) : Int)) := by
    have h1 := heap_alloc_new (w.alloc (.cells #[.string ⟨n.op.toArray⟩, .int .i64 n.int, .string ⟨n.text.toArray⟩, .int .i64 n.ty.kind, .slice A n.ty.args.length c, .slice K n.kids.length kc] 28)) (.cells #[.pointer none, .slice none 0 0, .int .i64 0] 63)
    rw [hs0] at h1
    exact .inl ⟨.slice none 0 0, h1, World.ownsRow_nil _ _ _ _, by simp [Value.ownBlock]⟩
  have HE : Hid (showW n = (termW 24 n ([], 0)).bind fun s => if 4096 < s.1.length then none else some s) := by
    show _ = _
    unfold showW
    cases termW 24 n ([], 0) <;> rfl
  have hs1 : ((w.alloc (.cells #[.string ⟨n.op.toArray⟩, .int .i64 n.int, .string ⟨n.text.toArray⟩, .int .i64 n.ty.kind, .slice A n.ty.args.length c, .slice K n.kids.length kc] 28)).alloc (.cells #[.pointer none, .slice none 0 0, .int .i64 0] 63)).heap.size = w.heap.size + 2 := by simp
  clear hN hG hR hb0 hs0
  go_enter Tryd.func18, Tryd.ntmps18
  go_wp2_with (fail)
  generalize (w.alloc (.cells #[.string ⟨n.op.toArray⟩, .int .i64 n.int, .string ⟨n.text.toArray⟩, .int .i64 n.ty.kind, .slice A n.ty.args.length c, .slice K n.kids.length kc] 28)).alloc (.cells #[.pointer none, .slice none 0 0, .int .i64 0] 63) = w1 at *
  have HN1 : Hid (NdAt w1 (fun k => k < w.heap.size) d (.agg #[.string ⟨n.op.toArray⟩, .int .i64 n.int, .string ⟨n.text.toArray⟩, .int .i64 n.ty.kind, .slice A n.ty.args.length c, .slice K n.kids.length kc]) n) := NdAt.move (fun b hb _ => ⟨hb, fun _ => World.cell?_of_block (hba.block b hb)⟩) d _ _ HN0.out
  have hT := term_any 24 (by omega) (w.heap.size + 1) d _ _ n [] 0 w1 HN1.out (fun x hx => by omega) HR.out HW1.out (HG.out.below hba hGl) (by omega) (by simp) (Nat.zero_le _)
  rw [show (((24 : Nat) : Nat) : Int) = 24 from rfl] at hT
  have HBA := Lib.hid hba
  have HP := Lib.hid (fun s' hs' => termW_pos 24 n ([], 0) s' hs')
  obtain ⟨b, hb⟩ : ∃ b, b = w.heap.size + 1 := ⟨_, rfl⟩
  rw [← hb] at hT
  rw [← hb]
  have hbw : w.heap.size < b := by omega
  have hb1 : b < w1.heap.size := by omega
  refine hT.mono ?_
  clear hba hT hb HW1
  intro e w2 h2
  revert HE HP h2
  generalize termW 24 n ([], 0) = q
  intro HE HP h2
  match q, h2, HE, HP with
  | none, h2, HE, _ =>
    obtain ⟨rfl, hf2⟩ := h2
    have HR2 : Hid (showW n = none) := HE
    have HB2 := Lib.hid (HBA.out.trans (hf2.below.mono (by omega)))
    clear hf2 HE
    go_wp2_with (fail)
    go_ret2
    rw [HR2.out]
    exact ⟨rfl, HB2.out⟩
  | some s, h2, HE, HP =>
    obtain ⟨rfl, hw2, hf2⟩ := h2
    have HR2 : Hid (showW n = if 4096 < s.1.length then none else some s) := HE
    have HW2 := Lib.hid hw2
    have HB2 := Lib.hid (HBA.out.trans (hf2.below.mono (by omega)))
    have hpos := HP.out s rfl
    simp only [List.length_nil] at hpos
    clear hf2 hw2 HE HP
    go_wp2_with (fail)
    refine (wrLen_any b s.1 (s.2 : Int) w2 HW2.out).mono ?_
    rintro e w3 ⟨rfl, rfl⟩
    by_cases hlt : 4096 < s.1.length
    · have hl2 : (4096 : Int) < (s.1.length : Int) := by omega
      have HR3 : Hid (showW n = none) := by show _ = _; rw [HR2.out, if_pos hlt]
      go_wp2_with (fail)
      go_ret2
      rw [HR3.out]
      exact ⟨rfl, HB2.out⟩
    · have hl2 : ¬ (4096 : Int) < (s.1.length : Int) := by omega
      have HR3 : Hid (showW n = some s) := by show _ = _; rw [HR2.out, if_neg hlt]
      go_wp2_with (fail)
      go_ret2
      rw [HR3.out]
      exact ⟨b, by omega, rfl, HW2.out, HB2.out, fun e => by rw [e] at hpos; exact absurd hpos (by simp)⟩

/-- What Show answers with. -/
def SwOut (e : Ending) : Option StW → Prop
  | none => e = .returned (.tuple #[.string ⟨#[]⟩, .int .i64 110])
  | some s => e = .returned (.tuple #[.string ⟨s.1.toArray⟩, .int .i64 0])

set_option maxRecDepth 100000 in
set_option maxHeartbeats 2000000 in
theorem exprShow_any (d : Nat) (S : Nat → Prop) (v : Value) (n : Nd) (w : World) (hN : NdAt w S d v n) (hR : RgN 24 n) (hG : Gl w) :
    Calls Tryd.prog 10 #[v] w fun e w' => SwOut e (showW n) ∧ Below w.heap.size w w' := by
  obtain ⟨A, c, K, kc, rfl⟩ := hN.form
  have hGl := hG.kd.lt
  have hba := (Below.refl w.heap.size w).alloc (Nat.le_refl _) (.cells #[.string ⟨n.op.toArray⟩, .int .i64 n.int, .string ⟨n.text.toArray⟩, .int .i64 n.ty.kind, .slice A n.ty.args.length c, .slice K n.kids.length kc] 28)
  have hs1 : (w.alloc (.cells #[.string ⟨n.op.toArray⟩, .int .i64 n.int, .string ⟨n.text.toArray⟩, .int .i64 n.ty.kind, .slice A n.ty.args.length c, .slice K n.kids.length kc] 28)).heap.size = w.heap.size + 1 := by simp
  have hT := written_any d S _ n _ (NdAt.below hN ((Below.refl _ w).alloc (Nat.le_refl _) (.cells #[.string ⟨n.op.toArray⟩, .int .i64 n.int, .string ⟨n.text.toArray⟩, .int .i64 n.ty.kind, .slice A n.ty.args.length c, .slice K n.kids.length kc] 28))) hR (hG.below hba hGl)
  have HT := Lib.hid hT
  have HBA := Lib.hid hba
  clear hN hG hR hT hba
  go_enter Tryd.func10, Tryd.ntmps10
  go_wp2_with (fail)
  refine HT.out.mono ?_
  clear HT
  generalize w.alloc (.cells #[.string ⟨n.op.toArray⟩, .int .i64 n.int, .string ⟨n.text.toArray⟩, .int .i64 n.ty.kind, .slice A n.ty.args.length c, .slice K n.kids.length kc] 28) = w1 at *
  intro e w2 h2
  revert h2
  cases hq : showW n with
  | none =>
    intro h2
    have HQ := Lib.hid hq
    clear hq
    obtain ⟨rfl, hb2⟩ := h2
    have HB2 := Lib.hid (HBA.out.trans (hb2.mono (by omega)))
    clear hb2
    go_wp2_with (fail)
    go_ret2
    rw [HQ.out]
    exact ⟨rfl, HB2.out⟩
  | some s =>
    intro h2
    have HQ := Lib.hid hq
    clear hq
    obtain ⟨b, hb, rfl, hw2, hb2, hne⟩ := h2
    have HW2 := Lib.hid hw2
    have HB2 := Lib.hid (HBA.out.trans (hb2.mono (by omega)))
    have hbl2 := hw2.lt
    have HX := Lib.hid (wrText_any b s.1 (s.2 : Int) w2 hw2 hne)
    clear hb2 hw2 hne
    go_wp2_with (fail)
    refine HX.out.mono ?_
    clear HX
    rintro e w3 ⟨rfl, hb3⟩
    have HB3 := Lib.hid (HB2.out.trans (hb3.mono (by omega)))
    clear hb3
    go_wp2_with (fail)
    go_ret2
    rw [HQ.out]
    exact ⟨rfl, HB3.out⟩
end Go.Proofs.YtdmkcemgbajdkaaDoor
