import Derived.Test.YtaecndmncpfpfaaGreatDoorMf
import Derived.Test.YtaecndmncpfpfaaGreatDoorSrt
import Derived.Test.YtaecndmncpfpfaaGreatDoorEt
import Derived.Test.YtaecndmncpfpfaaGreatDoorSzp
namespace Go.Proofs.YtaecndmncpfpfaaGreatDoor
open Go.RowKit Go.Sort
theorem word_parts {e : Ending} {op : List UInt8} (h : WdOut e (wdP op)) : ∃ (k : Int) (f : Bool), e = .returned (.tuple #[.agg #[.string ⟨(yH op).toArray⟩, .int .i64 k], .bool f]) := by
 unfold yH
 cases hw : wdP op with
 | none => rw [hw] at h; exact ⟨_, _, h⟩
 | some x => obtain ⟨p, l⟩ := x; rw [hw] at h; exact ⟨_, _, h⟩
theorem wdN_short : (wdL.all fun x => decide (x.2.length ≤ 64)) = true := by decide +kernel
theorem parts_short (op : List UInt8) : (yH op).length ≤ 64 := by
 unfold yH
 cases hw : wdP op with
 | none => simp
 | some x =>
   obtain ⟨p, l⟩ := x
   unfold wdP at hw
   by_cases hl : op = listW
   · rw [if_pos hl] at hw
     injection hw with hw
     injection hw with h1 h2
     simp [← h1]
   · rw [if_neg hl] at hw
     cases hf : wdL.find? (fun x => decide (x.1 = op)) with
     | none => rw [hf] at hw; cases hw
     | some y =>
       rw [hf] at hw
       injection hw with hw
       injection hw with h1 h2
       have h3 := List.all_eq_true.1 wdN_short y (List.mem_of_find?_eq_some hf)
       simp only [decide_eq_true_eq] at h3
       simpa [← h1] using h3
theorem own_lower {w : World} {B B' : Nat} {e : TypeId} {k n : Nat} {v : Value} {xs : List Value} (h : w.ownsRow B e k v n xs) (hB : B' ≤ B) : w.ownsRow B' e k v n xs := by
 refine ⟨h.1, ?_⟩
 rcases h.2 with h | ⟨g, cap, cur, h0, h1, h2⟩
 · exact .inl h
 · exact .inr ⟨g, cap, cur, h0, by omega, h2⟩
theorem freeK_len {f : Nd → List (List UInt8) → List (List UInt8)} : ∀ (l : List Nd) (ps : List UInt8) (b own names : List (List UInt8)), names.length ≤ (freeK f l ps b own names).length
 | [], _, _, _, _ => Nat.le_refl _
 | _ :: _, [], _, _, _ => Nat.le_refl _
 | k :: l, p :: ps, b, own, names => by
   simp only [freeK]
   split
   · exact freeK_len l ps b _ names
   · have := freeK_len (f := f) l ps b own (names ++ f k (if l.isEmpty then b ++ own else b))
     rw [List.length_append] at this
     omega
structure FrI (w : World) (pv wv : Array Value) (V : Nat) (ov nv : Value) (own names : List (List UInt8)) (wr : World) : Prop where
 below : Below w.heap.size w wr
 size : w.heap.size < V ∧ V + 1 ≤ wr.heap.size
 box : wr.heap[w.heap.size]? = some (.cells pv 41 (0, 0))
 wd : wr.heap[V]? = some (.cells wv 133 (0, 0))
 own : wr.ownsRow (V + 1) 9 1 ov own.length (own.map encStr)
 names : wr.ownsRow (V + 1) 9 1 nv names.length (names.map encStr)
 apart : ov.ownBlock = none ∨ ov.ownBlock ≠ nv.ownBlock
theorem FrI.later {w wr w' : World} {pv wv : Array Value} {V : Nat} {ov nv : Value} {own names : List (List UInt8)} (h : FrI w pv wv V ov nv own names wr) (hb : Below wr.heap.size wr w') : FrI w pv wv V ov nv own names w' := by
 have hs := h.size
 have hg : wr.grownBy w' none := ⟨hb.os, hb.tape, hb.output, hb.size, fun k hk _ => hb.block k hk⟩
 exact ⟨h.below.trans (hb.mono h.below.size), ⟨hs.1, by have := hb.size; omega⟩, (hb.block _ (by omega)).trans h.box, (hb.block _ (by omega)).trans h.wd, h.own.kept hg (by cases hv : ov.ownBlock <;> simp), h.names.kept hg (by cases hv : nv.ownBlock <;> simp), h.apart⟩
theorem FrI.putOwn {w wr w' : World} {pv wv : Array Value} {V : Nat} {ov nv v' : Value} {own names own' : List (List UInt8)} (h : FrI w pv wv V ov nv own names wr) (hg : wr.grownBy w' ov.ownBlock) (ho : w'.ownsRow (V + 1) 9 1 v' own'.length (own'.map encStr)) (hat : v'.ownBlock = ov.ownBlock ∨ v'.ownBlock = some wr.heap.size) : FrI w pv wv V v' nv own' names w' := by
 have hs := h.size
 have hov : ∀ k, ov.ownBlock = some k → V + 1 ≤ k ∧ k < wr.heap.size := h.own.lt
 have hnv : ∀ k, nv.ownBlock = some k → V + 1 ≤ k ∧ k < wr.heap.size := h.names.lt
 have hgs := hg.size
 refine ⟨h.below.grown hg h.below.size (fun k hk => by have := (hov k hk).1; omega), ⟨hs.1, by omega⟩, (hg.block _ (by omega) (fun e => by have := (hov _ e.symm).1; omega)).trans h.box, (hg.block _ (by omega) (fun e => by have := (hov _ e.symm).1; omega)).trans h.wd, ho, h.names.kept hg ?_, ?_⟩
 · rcases h.apart with h1 | h1
   · rw [h1]; cases nv.ownBlock <;> simp
   · exact .inr fun e => h1 e.symm
 · rcases hat with h1 | h1
   · rw [h1]; exact h.apart
   · rw [h1]
     refine .inr fun e => ?_
     have := (hnv _ e.symm).2
     omega
theorem FrI.putNames {w wr w' : World} {pv wv : Array Value} {V : Nat} {ov nv v' : Value} {own names names' : List (List UInt8)} (h : FrI w pv wv V ov nv own names wr) (hg : wr.grownBy w' nv.ownBlock) (ho : w'.ownsRow (V + 1) 9 1 v' names'.length (names'.map encStr)) (hat : v'.ownBlock = nv.ownBlock ∨ v'.ownBlock = some wr.heap.size) : FrI w pv wv V ov v' own names' w' := by
 have hs := h.size
 have hov : ∀ k, ov.ownBlock = some k → V + 1 ≤ k ∧ k < wr.heap.size := h.own.lt
 have hnv : ∀ k, nv.ownBlock = some k → V + 1 ≤ k ∧ k < wr.heap.size := h.names.lt
 have hgs := hg.size
 refine ⟨h.below.grown hg h.below.size (fun k hk => by have := (hnv k hk).1; omega), ⟨hs.1, by omega⟩, (hg.block _ (by omega) (fun e => by have := (hnv _ e.symm).1; omega)).trans h.box, (hg.block _ (by omega) (fun e => by have := (hnv _ e.symm).1; omega)).trans h.wd, h.own.kept hg ?_, ho, ?_⟩
 · exact h.apart
 · rcases hat with h1 | h1
   · rw [h1]; exact h.apart
   · rw [h1]
     cases ho : ov.ownBlock with
     | none => exact .inl rfl
     | some k =>
       refine .inr fun e => ?_
       injection e with e
       have := (hov k ho).2
       omega
set_option maxRecDepth 100000 in
set_option maxHeartbeats 3000000 in
theorem free_any : ∀ (r d : Nat) (S : Nat → Prop) (v bv : Value) (n : Nd) (b : List (List UInt8)) (w : World), NdAt w S d v n → (∃ s s', zJ r n s = some s') → StrAt w (fun _ => True) bv b → b.length + 64 * r ≤ 100000 → (yA r n b).length ≤ 1000000 →
    Calls Tryz.prog 42 #[v, bv] w fun e w' => (∃ v', e = .returned v' ∧ w'.ownsRow w.heap.size 9 1 v' (yA r n b).length ((yA r n b).map encStr)) ∧ Below w.heap.size w w'
 | 0, d, S, v, bv, n, b, w, _, ⟨s, s', ht⟩, _, _, _ => by simp [zJ] at ht
 | r + 1, 0, S, v, bv, n, b, w, hN, _, _, _, _ => hN.elim
 | r + 1, d + 1, S, v, bv, n, b, w, hN, ht, hb, hbl, hfl => by
   have IH := free_any r d
   have HIH := Lib.hid IH
   have HB := Lib.hid hb
   obtain ⟨BA, bc, rfl⟩ := hb.form
   obtain ⟨A, c, K, kc, rfl, _, hlk, hK⟩ := hN
   have HK := Lib.hid hK
   clear IH hb hK
   have hbc := contains_any (fun _ => True) _ b n.text (w.alloc (.cells #[.string ⟨n.op.toArray⟩, .int .i64 n.int, .string ⟨n.text.toArray⟩, .int .i64 n.ty.kind, .slice A n.ty.args.length c, .slice K n.kids.length kc] 41)) (HB.out.below ((Below.refl _ w).alloc (Nat.le_refl _) _)) (by omega)
   have HBC := Lib.hid hbc
   clear hbc
   have hba := (Below.refl w.heap.size w).alloc (Nat.le_refl _) (.cells #[.string ⟨n.op.toArray⟩, .int .i64 n.int, .string ⟨n.text.toArray⟩, .int .i64 n.ty.kind, .slice A n.ty.args.length c, .slice K n.kids.length kc] 41)
   have HB1 := Lib.hid hba
   have HC1 := Lib.hid (heap_alloc_new w (.cells #[.string ⟨n.op.toArray⟩, .int .i64 n.int, .string ⟨n.text.toArray⟩, .int .i64 n.ty.kind, .slice A n.ty.args.length c, .slice K n.kids.length kc] 41))
   have hs1 : (w.alloc (.cells #[.string ⟨n.op.toArray⟩, .int .i64 n.int, .string ⟨n.text.toArray⟩, .int .i64 n.ty.kind, .slice A n.ty.args.length c, .slice K n.kids.length kc] 41)).heap.size = w.heap.size + 1 := by simp
   clear hba
   by_cases hn : n.op = nameW
   · have g0 : (n.op == [110, 97, 109, 101]) = true := by simp [hn, nameW]
     have HF : Hid (yA (r + 1) n b = if n.text ∈ b then [] else [n.text]) := by show _ = _; simp only [yA, if_pos hn]
     clear hfl ht hn
     by_cases hm : n.text ∈ b
     · have gm : decide (n.text ∈ b) = true := decide_eq_true hm
       have HM : Hid (yA (r + 1) n b = []) := by show _ = _; rw [HF.out, if_pos hm]
       rw [gm] at HBC
       clear hm gm HF
       go_enter Tryz.func42, Tryz.ntmps42
       go_wp2_with (fail)
       refine HBC.out.mono ?_
       rintro e w2 ⟨rfl, rfl⟩
       go_wp2_with (fail)
       go_ret
       rw [HM.out]
       exact ⟨⟨_, rfl, World.ownsRow_nil _ _ _ _⟩, HB1.out⟩
     · have gm : decide (n.text ∈ b) = false := decide_eq_false hm
       have HM : Hid (yA (r + 1) n b = [n.text]) := by show _ = _; rw [HF.out, if_neg hm]
       rw [gm] at HBC
       clear hm gm HF
       go_enter Tryz.func42, Tryz.ntmps42
       go_wp2_with (fail)
       refine HBC.out.mono ?_
       clear HBC
       generalize w.alloc (.cells #[.string ⟨n.op.toArray⟩, .int .i64 n.int, .string ⟨n.text.toArray⟩, .int .i64 n.ty.kind, .slice A n.ty.args.length c, .slice K n.kids.length kc] 41) = w1 at *
       rintro e w2 ⟨rfl, rfl⟩
       have d0 := zN HC1.out
       have d2 := zQ HC1.out
       have dl := zC HC1.out
       go_wp2_with (fail)
       go_ret
       rw [HM.out]
       refine ⟨⟨_, rfl, by simp, .inr ⟨w.heap.size + 1, 1, _, rfl, by omega, heap_new_at hs1, Nat.le_refl _, by unfold maxLen; omega, by simp, by simp [encStr_arr]⟩⟩, HB1.out.alloc (by omega) _⟩
   · have g0 : (n.op == [110, 97, 109, 101]) = false := beq_eq_false_iff_ne.2 hn
     have HF : Hid (yA (r + 1) n b = freeK (yA r) n.kids (yH n.op) b [] []) := by show _ = _; simp only [yA, if_neg hn]
     obtain ⟨s, s', hts⟩ := ht
     obtain ⟨hkl, hke⟩ := termW_kids hts hn
     have HKE := Lib.hid hke
     have HFL := Lib.hid hfl
     have hps := parts_short n.op
     have HWD := Lib.hid (fun (W : World) => wordOf_any n.op W)
     clear hke hts hn hfl HBC
     go_enter Tryz.func42, Tryz.ntmps42
     go_wp2_with (fail)
     generalize w.alloc (.cells #[.string ⟨n.op.toArray⟩, .int .i64 n.int, .string ⟨n.text.toArray⟩, .int .i64 n.ty.kind, .slice A n.ty.args.length c, .slice K n.kids.length kc] 41) = w1 at *
     have d0 := zN HC1.out
     have dl := zC HC1.out
     go_wp2_with (fail)
     refine (HWD.out _).mono ?_
     rintro e w2 ⟨hout, hb2⟩
     obtain ⟨kl, ff, rfl⟩ := word_parts hout
     have hs2 := hb2.size
     have HB2 := Lib.hid (HB1.out.trans (hb2.mono (by omega)))
     have HC2 := Lib.hid (below_at hb2 HC1.out)
     have hpsz : (ByteArray.mk (yH n.op).toArray).size = (yH n.op).length := by simp [ByteArray.size]
     obtain ⟨ps, hpse⟩ : ∃ ps, ps = ByteArray.mk (yH n.op).toArray := ⟨_, rfl⟩
     have hpb : bl ps = yH n.op := by rw [hpse]; unfold bl; simp
     rw [← hpse] at hpsz
     rw [← hpse]
     have HPB := Lib.hid hpb
     generalize yH n.op = p at *
     have hba := (Below.refl w2.heap.size w2).alloc (Nat.le_refl _) (.cells #[.string ps, .int .i64 kl] 133)
     have HV := Lib.hid (heap_alloc_new w2 (.cells #[.string ps, .int .i64 kl] 133))
     have HB3 := Lib.hid (HB2.out.trans (hba.mono (by omega)))
     have HC3 := Lib.hid (below_at hba HC2.out)
     have hs3 : (w2.alloc (.cells #[.string ps, .int .i64 kl] 133)).heap.size = w2.heap.size + 1 := by simp
     have d5 := zL HC3.out
     clear hpb hpse hout hb2 hba d0 dl HC1 HC2 HB1 HB2
     go_wp2_with (fail)
     generalize w2.alloc (.cells #[.string ps, .int .i64 kl] 133) = w3 at *
     have HI0 : Hid (FrI w #[.string ⟨n.op.toArray⟩, .int .i64 n.int, .string ⟨n.text.toArray⟩, .int .i64 n.ty.kind, .slice A n.ty.args.length c, .slice K n.kids.length kc] #[.string ps, .int .i64 kl] w2.heap.size (.slice none 0 0) (.slice none 0 0) [] [] w3) := ⟨HB3.out, ⟨by omega, by omega⟩, HC3.out, HV.out, World.ownsRow_nil _ _ _ _, World.ownsRow_nil _ _ _ _, .inl rfl⟩
     clear HB3 HC3 HV d5
     go_loopw [7, 8, 31] (fun nv ov iv wr => ∃ (j : Nat) (own names : List (List UInt8)), iv = .int .i64 (j : Int) ∧ j ≤ n.kids.length ∧ own.length ≤ j ∧ Hid (yA (r + 1) n b = freeK (yA r) (n.kids.drop j) (p.drop j) b own names) ∧ Hid (FrI w #[.string ⟨n.op.toArray⟩, .int .i64 n.int, .string ⟨n.text.toArray⟩, .int .i64 n.ty.kind, .slice A n.ty.args.length c, .slice K n.kids.length kc] #[.string ps, .int .i64 kl] w2.heap.size ov nv own names wr)) (fun _ _ iv _ => n.kids.length - (intOf iv).toNat)
     case atStart => exact ⟨0, [], [], rfl, Nat.zero_le _, Nat.le_refl _, HF, HI0⟩
     case round =>
      obtain ⟨j, own, names, rfl, hj, hol, HE, HI⟩ := hrel
      have hsr := HI.out.size
      have hbr := HI.out.below.size
      have b5 := zL HI.out.box
      have v0 := zG HI.out.wd
      have vl := zC HI.out.wd
      have bl0 := zC HI.out.box
      by_cases hlt : j < n.kids.length
      · obtain ⟨bk, o, rfl, hSb, hcells⟩ := HK.out (by omega)
        obtain ⟨a, ha⟩ : ∃ a, n.kids[j]? = some a := ⟨_, List.getElem?_eq_getElem hlt⟩
        obtain ⟨A', c', K', k', h0, h1, h2, h3, h4, h5, hnd, hbl'⟩ := kid_cells6 hcells ha
        have HD : Hid (n.kids.drop j = a :: n.kids.drop (j + 1)) := by
         show _ = _
         rw [List.drop_eq_getElem_cons hlt]
         congr 1
         exact Option.some.inj ((List.getElem?_eq_getElem hlt).symm.trans ha)
        have hjp : j < p.length := by omega
        have HDP : Hid (p.drop j = lkB p j :: p.drop (j + 1)) := by show _ = _; rw [List.drop_eq_getElem_cons hjp, lkB_at hjp]
        have hix := str_index ps j (by omega) (by omega)
        rw [← bl_at ps j (by omega), HPB.out] at hix
        have g0' := (HI.out.below.cell (p := ⟨bk, o + j * 6, none⟩) hbl').trans h0
        have g1 := (HI.out.below.cell (p := ⟨bk, o + j * 6 + 1, none⟩) hbl').trans h1
        have g2 := (HI.out.below.cell (p := ⟨bk, o + j * 6 + 2, none⟩) hbl').trans h2
        have g3 := (HI.out.below.cell (p := ⟨bk, o + j * 6 + 3, none⟩) hbl').trans h3
        have g4 := (HI.out.below.cell (p := ⟨bk, o + j * 6 + 4, none⟩) hbl').trans h4
        have g5 := (HI.out.below.cell (p := ⟨bk, o + j * 6 + 5, none⟩) hbl').trans h5
        have hjl : ((j : Int) < (n.kids.length : Int)) := by omega
        have hba := (Below.refl wr.heap.size wr).alloc (Nat.le_refl _) (.cells #[.string ⟨a.op.toArray⟩, .int .i64 a.int, .string ⟨a.text.toArray⟩, .int .i64 a.ty.kind, .slice A' a.ty.args.length c', .slice K' a.kids.length k'] 41)
        have HIA := Lib.hid (HI.out.later hba)
        have HND := Lib.hid ((hnd.below HI.out.below).below hba)
        have HAK := Lib.hid (HKE.out a (List.mem_of_getElem? ha))
        have HBA := Lib.hid (HB.out.below (HI.out.below.trans (hba.mono hbr)))
        clear h0 h1 h2 h3 h4 h5 hcells ha hnd hba
        have hlast2 : (n.kids.drop (j + 1)).isEmpty = decide (j + 1 = n.kids.length) := by
         rw [Bool.eq_iff_iff, List.isEmpty_iff, List.drop_eq_nil_iff, decide_eq_true_eq]; omega
        have HSA : ∀ W : World, Hid (StrAt (W.alloc (.cells #[.string ⟨a.text.toArray⟩] 9)) (fun _ => True) (.slice (some ⟨W.heap.size, 0, none⟩) 1 1) [a.text]) := fun W => .inr ⟨W.heap.size, 0, 1, rfl, Nat.le_refl _, trivial, fun i x hx => by
         rcases i with _ | i
         · simp only [List.getElem?_cons_zero, Option.some.injEq] at hx
           subst hx
           exact cell1_0 (heap_new_at rfl)
         · simp at hx⟩
        have hal : ∀ (W : World) (o : Obj), Below W.heap.size W (W.alloc o) := fun W o => (Below.refl _ W).alloc (Nat.le_refl _) o
        have HAL := Lib.hid hal
        have hzA : (wr.alloc (.cells #[.string ⟨a.op.toArray⟩, .int .i64 a.int, .string ⟨a.text.toArray⟩, .int .i64 a.ty.kind, .slice A' a.ty.args.length c', .slice K' a.kids.length k'] 41)).heap.size = wr.heap.size + 1 := by simp
        clear hal
        by_cases hlast : j + 1 = n.kids.length
        · have gl : ((j : Int) == (n.kids.length : Int) - 1) = true := by simp; omega
          have HLE : Hid ((n.kids.drop (j + 1)).isEmpty = true) := by show _ = _; rw [hlast2]; simp [hlast]
          have HKA := Lib.hid (heap_alloc_new wr (.cells #[.string ⟨a.op.toArray⟩, .int .i64 a.int, .string ⟨a.text.toArray⟩, .int .i64 a.ty.kind, .slice A' a.ty.args.length c', .slice K' a.kids.length k'] 41))
          clear hlast2
          obtain ⟨OA, oc, rfl⟩ := (StrAt.of_own HI.out.own).form
          have hcc := concat_any (fun _ => True) (wr.heap.size + 1) (.slice BA b.length bc) (.slice OA own.length oc) b own ((wr.alloc (.cells #[.string ⟨a.op.toArray⟩, .int .i64 a.int, .string ⟨a.text.toArray⟩, .int .i64 a.ty.kind, .slice A' a.ty.args.length c', .slice K' a.kids.length k'] 41)).alloc (.cells #[.slice BA b.length bc, .slice OA own.length oc] 50)) (HBA.out.below (HAL.out _ _)) ((StrAt.of_own (HIA.out.later (HAL.out _ _)).own).wider (fun _ _ => trivial)) (heap_new_at (by simp)) (by omega)
          have HCC := Lib.hid hcc
          clear hcc
          go_wp2_with (fail)
          refine HCC.out.mono ?_
          clear HCC
          rintro e w5 ⟨⟨v5, rfl, hst5⟩, hb5⟩
          obtain ⟨bo, hbo⟩ : ∃ bo, bo = b ++ own := ⟨_, rfl⟩
          rw [← hbo] at hst5
          have HBO := Lib.hid hbo
          have hbol : bo.length = b.length + own.length := by rw [hbo, List.length_append]
          have HBL := Lib.hid hbol
          clear hbo hbol
          obtain ⟨A5, c5, rfl⟩ := hst5.form
          have hb6 := (HAL.out (wr.alloc (.cells #[.string ⟨a.op.toArray⟩, .int .i64 a.int, .string ⟨a.text.toArray⟩, .int .i64 a.ty.kind, .slice A' a.ty.args.length c', .slice K' a.kids.length k'] 41)) (.cells #[.slice BA b.length bc, .slice OA own.length oc] 50)).trans (hb5.mono (by simp))
          have HI5 := Lib.hid (HIA.out.later hb6)
          have HK5 := Lib.hid (below_at hb6 HKA.out)
          have HND5 := Lib.hid (HND.out.below hb6)
          have HST5 := Lib.hid (hst5.wider (S' := fun _ => True) (fun _ _ => trivial))
          have hs5 := hb6.size
          clear hst5 hb5 hb6 HIA HND b5 v0 HKA
          have v0 := zG HI5.out.wd
          have vl5 := zC HI5.out.wd
          have e0 := zN HK5.out
          have e1 := zR HK5.out
          have e2 := zQ HK5.out
          have e3 := zP HK5.out
          have e4 := zO HK5.out
          have e5 := zL HK5.out
          have el := zC HK5.out
          by_cases hp : lkB p j = 110
          · have gp : ((lkB p j).toNat : Int) = 110 := by rw [hp]; rfl
            have HE2 : Hid (yA (r + 1) n b = freeK (yA r) (n.kids.drop (j + 1)) (p.drop (j + 1)) b (own ++ [a.text]) names) := by
             show _ = _
             rw [HE.out, HD.out, HDP.out]
             simp only [freeK, if_pos hp]
            rw [gp] at hix
            clear hp gp
            have HSW := Lib.hid (HSA w5).out
            go_wp2_with (at_builtin; refine wpList_append_strs rfl _ _ rfl (w2.heap.size + 1) _ own [a.text] rfl (HI5.out.later (HAL.out _ _)).own (fun _ => True) _ rfl HSW.out (by simp; omega) (by simp; omega) ?_; intro v7 w7 hown7 hgrow7 hat7)
            go_roundw
            case rel => exact ⟨j + 1, own ++ [a.text], names, by go_num, by omega, by simp; omega, HE2, (HI5.out.later (HAL.out _ _)).putOwn hgrow7 hown7 hat7⟩
            case measure => simp [intOf]; omega
          · have gp : (((lkB p j).toNat : Int) == 110) = false := by
              simp only [beq_eq_false_iff_ne, ne_eq]
              intro hh
              exact hp (UInt8.toNat_inj.1 (by have h110 : (110 : UInt8).toNat = 110 := rfl; omega))
            have HE2 : Hid (yA (r + 1) n b = freeK (yA r) (n.kids.drop (j + 1)) (p.drop (j + 1)) b own (names ++ yA r a bo)) := by
             show _ = _
             rw [HE.out, HD.out, HDP.out, HBO.out]
             simp only [freeK, if_neg hp, HLE.out, if_true]
            have hle2 := freeK_len (f := yA r) (n.kids.drop (j + 1)) (p.drop (j + 1)) b own (names ++ yA r a bo)
            rw [← HE2.out, List.length_append] at hle2
            have hF := HFL.out
            have hnl : names.length + (yA r a bo).length ≤ 1000000 := by omega
            clear hp hle2 hF
            go_wp2_with (fail)
            refine (HIH.out S _ _ a bo w5 HND5.out HAK.out HST5.out (by have := HBL.out; omega) (by omega)).mono ?_
            rintro e w6 ⟨⟨v6, rfl, ho6⟩, hb6⟩
            have HI6 := Lib.hid (HI5.out.later hb6)
            have HO6 := Lib.hid ho6
            have hs6 := hb6.size
            clear ho6 hb6 HI5
            go_wp2_with (at_builtin; refine wpList_append_strs rfl _ _ rfl (w2.heap.size + 1) _ names (yA r a bo) rfl HI6.out.names _ _ rfl (StrAt.of_own HO6.out) (by omega) (by omega) ?_; intro v7 w7 hown7 hgrow7 hat7)
            go_roundw
            case rel => exact ⟨j + 1, own, names ++ yA r a bo, by go_num, by omega, by omega, HE2, HI6.out.putNames hgrow7 hown7 hat7⟩
            case measure => simp [intOf]; omega
        · have gl : ((j : Int) == (n.kids.length : Int) - 1) = false := by simp; omega
          have HLE : Hid ((n.kids.drop (j + 1)).isEmpty = false) := by show _ = _; rw [hlast2]; simp [hlast]
          clear hlast2
          by_cases hp : lkB p j = 110
          · have gp : ((lkB p j).toNat : Int) = 110 := by rw [hp]; rfl
            have HE2 : Hid (yA (r + 1) n b = freeK (yA r) (n.kids.drop (j + 1)) (p.drop (j + 1)) b (own ++ [a.text]) names) := by
             show _ = _
             rw [HE.out, HD.out, HDP.out]
             simp only [freeK, if_pos hp]
            rw [gp] at hix
            clear hp gp
            have HSW := HSA (wr.alloc (.cells #[.string ⟨a.op.toArray⟩, .int .i64 a.int, .string ⟨a.text.toArray⟩, .int .i64 a.ty.kind, .slice A' a.ty.args.length c', .slice K' a.kids.length k'] 41))
            rw [hzA] at HSW
            go_wp2_with (at_builtin; refine wpList_append_strs rfl _ _ rfl (w2.heap.size + 1) _ own [a.text] rfl (HIA.out.later (HAL.out _ _)).own (fun _ => True) _ rfl HSW.out (by simp; omega) (by simp; omega) ?_; intro v7 w7 hown7 hgrow7 hat7)
            go_roundw
            case rel => exact ⟨j + 1, own ++ [a.text], names, by go_num, by omega, by simp; omega, HE2, (HIA.out.later (HAL.out _ _)).putOwn hgrow7 hown7 hat7⟩
            case measure => simp [intOf]; omega
          · have gp : (((lkB p j).toNat : Int) == 110) = false := by
              simp only [beq_eq_false_iff_ne, ne_eq]
              intro hh
              exact hp (UInt8.toNat_inj.1 (by have h110 : (110 : UInt8).toNat = 110 := rfl; omega))
            have HE2 : Hid (yA (r + 1) n b = freeK (yA r) (n.kids.drop (j + 1)) (p.drop (j + 1)) b own (names ++ yA r a b)) := by
             show _ = _
             rw [HE.out, HD.out, HDP.out]
             simp only [freeK, if_neg hp, HLE.out, Bool.false_eq_true, if_false]
            have hle2 := freeK_len (f := yA r) (n.kids.drop (j + 1)) (p.drop (j + 1)) b own (names ++ yA r a b)
            rw [← HE2.out, List.length_append] at hle2
            have hF := HFL.out
            have hnl : names.length + (yA r a b).length ≤ 1000000 := by omega
            clear hp hle2 hF
            go_wp2_with (fail)
            refine (HIH.out S _ _ a b (wr.alloc (.cells #[.string ⟨a.op.toArray⟩, .int .i64 a.int, .string ⟨a.text.toArray⟩, .int .i64 a.ty.kind, .slice A' a.ty.args.length c', .slice K' a.kids.length k'] 41)) HND.out HAK.out HBA.out (by omega) (by omega)).mono ?_
            rintro e w6 ⟨⟨v6, rfl, ho6⟩, hb6⟩
            have HI6 := Lib.hid (HIA.out.later hb6)
            have HO6 := Lib.hid ho6
            have hs6 := hb6.size
            clear ho6 hb6 HIA
            go_wp2_with (at_builtin; refine wpList_append_strs rfl _ _ rfl (w2.heap.size + 1) _ names (yA r a b) rfl HI6.out.names _ _ rfl (StrAt.of_own HO6.out) (by omega) (by omega) ?_; intro v7 w7 hown7 hgrow7 hat7)
            go_roundw
            case rel => exact ⟨j + 1, own, names ++ yA r a b, by go_num, by omega, by omega, HE2, HI6.out.putNames hgrow7 hown7 hat7⟩
            case measure => simp [intOf]; omega
      · have hje : j = n.kids.length := by omega
        have HN : Hid (yA (r + 1) n b = names) := by
         show _ = _
         rw [HE.out, hje, List.drop_length]
         rfl
        have hjl : ¬ ((j : Int) < (n.kids.length : Int)) := by omega
        clear hje
        go_wp2_with (fail)
        go_ret
        rw [HN.out]
        exact ⟨⟨_, rfl, own_lower HI.out.names (by omega)⟩, HI.out.below⟩
end Go.Proofs.YtaecndmncpfpfaaGreatDoor
namespace Go.Proofs.YtaecndmncpfpfaaGreatDoor
open Go.RowKit Go.Sort
def FeOut (B : Nat) (w' : World) (e : Ending) (n : Nd) : Prop :=
 if (showW n).isSome then ∃ v', e = .returned (.tuple #[v', .int .i64 0]) ∧ w'.ownsRow B 9 1 v' (freeL n).length ((freeL n).map encStr)
 else e = .returned (.tuple #[.slice none 0 0, .int .i64 110])
theorem mem_compact {l : List (List UInt8)} {x : List UInt8} : x ∈ Lib.compact l ↔ x ∈ l := by
 have hone : ∀ m, m ≤ l.length → (x ∈ Lib.compactUpTo l.toArray m ↔ x ∈ l.take m) := by
  intro m
  induction m with
  | zero => intro _; simp [Lib.compactUpTo]
  | succ m IH =>
    intro hm
    have hml : m < l.length := by omega
    have hI := IH (by omega)
    rw [Lib.compactUpTo_succ, List.mem_append, hI, List.take_add_one, List.mem_append, List.getElem?_eq_getElem hml]
    have hg : l.toArray[m]! = l[m] := by simp [getElem!_pos, hml]
    by_cases hk : Lib.keeps l.toArray m = true
    · rw [if_pos hk, hg]
      simp
    · rw [if_neg hk]
      have hk2 : m ≠ 0 ∧ l.toArray[m]! = l.toArray[m - 1]! := by
       unfold Lib.keeps at hk
       simp only [decide_eq_true_eq, not_or, Decidable.not_not, ne_eq] at hk
       exact hk
      have hp : l.toArray[m - 1]! = l[m - 1] := by simp [getElem!_pos, show m - 1 < l.length by omega]
      constructor
      · rintro (h | h)
        · exact .inl h
        · cases h
      · rintro (h | h)
        · exact .inl h
        · simp only [Option.toList_some, List.mem_singleton] at h
          refine .inl ?_
          rw [h, ← hg, hk2.2, hp]
          exact List.mem_take_iff_getElem.2 ⟨m - 1, by omega, rfl⟩
 have := hone l.length (Nat.le_refl _)
 rw [List.take_length] at this
 exact this
theorem mem_freeL {n : Nd} {x : List UInt8} : x ∈ freeL n ↔ x ∈ yA 24 n [] := by
 unfold freeL
 rw [mem_compact, List.mem_mergeSort]
theorem freeL_len {n : Nd} (h : (showW n).isSome = true) : (freeL n).length ≤ 4096 := by
 unfold freeL
 have h1 := Lib.compact_length_le ((yA 24 n []).mergeSort fun x y => decide (x ≤ y))
 rw [List.length_mergeSort] at h1
 have := free_few h []
 omega
theorem freeL_short {n : Nd} (h : (showW n).isSome = true) : ∀ x ∈ freeL n, x.length ≤ 16 := fun x hx => name_le (freeT_names 24 n [] (showW_term h) x (mem_freeL.1 hx))
set_option maxRecDepth 100000 in
set_option maxHeartbeats 4000000 in
theorem exprFree_any (d : Nat) (S : Nat → Prop) (v : Value) (n : Nd) (w : World) (hN : NdAt w S d v n) (hR : RgN 24 n) (hG : Gl w) :
    Calls Tryz.prog 22 #[v] w fun e w' => FeOut w.heap.size w' e n ∧ Below w.heap.size w w' := by
 obtain ⟨A, c, K, kc, rfl⟩ := hN.form
 have hGl := hG.lt2
 have hba := (Below.refl w.heap.size w).alloc (Nat.le_refl _) (.cells #[.string ⟨n.op.toArray⟩, .int .i64 n.int, .string ⟨n.text.toArray⟩, .int .i64 n.ty.kind, .slice A n.ty.args.length c, .slice K n.kids.length kc] 41)
 have HC1 := Lib.hid (heap_alloc_new w (.cells #[.string ⟨n.op.toArray⟩, .int .i64 n.int, .string ⟨n.text.toArray⟩, .int .i64 n.ty.kind, .slice A n.ty.args.length c, .slice K n.kids.length kc] 41))
 have hs1 : (w.alloc (.cells #[.string ⟨n.op.toArray⟩, .int .i64 n.int, .string ⟨n.text.toArray⟩, .int .i64 n.ty.kind, .slice A n.ty.args.length c, .slice K n.kids.length kc] 41)).heap.size = w.heap.size + 1 := by simp
 have HNB := Lib.hid (fun (W : World) (h : Below w.heap.size w W) => hN.below h)
 have hT := exprCheck_any d S _ n _ (HNB.out _ hba) hR (hG.below hba hGl)
 have HT := Lib.hid hT
 have HBA := Lib.hid hba
 clear hN hG hR hT hba
 go_enter Tryz.func22, Tryz.ntmps22
 go_wp2_with (fail)
 refine HT.out.mono ?_
 clear HT
 generalize w.alloc (.cells #[.string ⟨n.op.toArray⟩, .int .i64 n.int, .string ⟨n.text.toArray⟩, .int .i64 n.ty.kind, .slice A n.ty.args.length c, .slice K n.kids.length kc] 41) = w1 at *
 rintro e w2 ⟨hck, hb2⟩
 have HB2 := Lib.hid (HBA.out.trans (hb2.mono (by omega)))
 have HC2 := Lib.hid (below_at hb2 HC1.out)
 have hs2 := hb2.size
 clear hb2 HC1
 by_cases hq : (showW n).isSome = true
 · obtain ⟨x, hx⟩ := Option.isSome_iff_exists.1 hq
   rw [hx] at hck
   obtain rfl : e = .returned (.int .i64 0) := hck
   have HQ := Lib.hid hq
   have HX := Lib.hid hx
   have hF := free_any 24 d S _ (.slice none 0 0) n [] w2 (HNB.out _ HB2.out) (showW_term hq) (StrAt.nil _ _) (by simp) (by have := free_few hq []; omega)
   have HF := Lib.hid hF
   have hfl : (yA 24 n []).length ≤ 4096 := free_few hq []
   have hsl : (sortL (yA 24 n [])).length ≤ 4096 := by rw [show (sortL (yA 24 n [])).length = (yA 24 n []).length from List.length_mergeSort _]; exact hfl
   have hcl := freeL_len hq
   have HSH := Lib.hid (freeL_short hq)
   have d0 := zN HC2.out
   have d1 := zR HC2.out
   have d2 := zQ HC2.out
   have d3 := zP HC2.out
   have d4 := zO HC2.out
   have d5 := zL HC2.out
   have dl := zC HC2.out
   clear hq hx hF
   go_wp2_with (fail)
   refine HF.out.mono ?_
   clear HF
   rintro e w3 ⟨⟨v3, rfl, ho3⟩, hb3⟩
   have HO3 := Lib.hid ho3
   have HB3 := Lib.hid (HB2.out.trans (hb3.mono (by omega)))
   have hs3 := hb3.size
   clear ho3 hb3 d0 d1 d2 d3 d4 d5 dl HC2
   go_wp2_with (fail)
   refine (sort_own _ _ _ _ HO3.out (by omega)).mono ?_
   rintro e w4 ⟨rfl, ho4, hg4⟩
   have HO4 := Lib.hid ho4
   have HB4 := Lib.hid (HB3.out.grown hg4 (by omega) (fun k hk => by have := (HO3.out.lt k hk).1; omega))
   have hs4 := hg4.size
   clear ho4 hg4 HO3
   go_wp2_with (fail)
   refine (compact_own _ _ _ _ HO4.out (by omega)).mono ?_
   rintro e w5 ⟨v5, rfl, ho5, hv5, hg5⟩
   have HO5 : Hid (w5.ownsRow w2.heap.size 9 1 v5 (freeL n).length ((freeL n).map encStr)) := ho5
   have HB5 := Lib.hid (HB4.out.grown hg5 (by omega) (fun k hk => by have := (HO4.out.lt k hk).1; omega))
   have hs5 := hg5.size
   clear ho5 hg5 hv5 HO4
   obtain ⟨l, hle⟩ : ∃ l, l = freeL n := ⟨_, rfl⟩
   rw [← hle] at HO5 HSH hcl
   have HLE := Lib.hid hle
   clear hle
   obtain ⟨A5, c5, rfl⟩ := (StrAt.of_own HO5.out).form
   go_wp2_with (fail)
   go_loopw [20] (fun iv wr => ∃ j : Nat, iv = .int .i64 (j : Int) ∧ j ≤ l.length ∧ Hid (wr.ownsRow w2.heap.size 9 1 (.slice A5 l.length c5) l.length (l.map encStr)) ∧ Hid (Below w.heap.size w wr) ∧ w2.heap.size ≤ wr.heap.size) (fun iv _ => 5000 - (intOf iv).toNat)
   case atStart => exact ⟨0, rfl, Nat.zero_le _, HO5, HB5, by omega⟩
   case round =>
    obtain ⟨j, rfl, hj, HO, HB, hsz⟩ := hrel
    by_cases hlt : j < l.length
    · obtain ⟨x, hx⟩ : ∃ x, l[j]? = some x := ⟨_, List.getElem?_eq_getElem hlt⟩
      have hxs := HSH.out x (List.mem_of_getElem? hx)
      obtain ⟨g, rfl⟩ : ∃ g, A5 = some ⟨g, 0, none⟩ := by
       rcases HO.out.2 with ⟨_, h0⟩ | ⟨g, _, _, he, _⟩
       · omega
       · injection he with e1 e2 e3; exact ⟨g, e1⟩
      have HX := Lib.hid hx
      have hcell : ∀ W : World, W.ownsRow w2.heap.size 9 1 (.slice (some ⟨g, 0, none⟩) l.length c5) l.length (l.map encStr) → W.cell? ⟨g, j, none⟩ = some (.string ⟨x.toArray⟩) ∧ W.frozen? ⟨g, j, none⟩ = false ∧ w2.heap.size ≤ g ∧ g < W.heap.size := fun W h => by
       have hc := h.cellAt j (by omega)
       rw [List.getElem?_map, HX.out] at hc
       refine ⟨hc, ?_, ?_⟩
       · rcases h.2 with ⟨h0, _⟩ | ⟨g', _, _, he, _, hg, _⟩
         · cases h0
         · injection he with e1 _ _; injection e1 with e1; injection e1 with e1
           subst e1
           simp [World.frozen?, hg]
       · have := h.lt g rfl
         exact this
      have HCELL := Lib.hid hcell
      obtain ⟨cx, fx, hg0, hg1⟩ := hcell wr HO.out
      have hjl : ((j : Int) < (l.length : Int)) := by omega
      clear hx hcell
      go_wp2_with (fail)
      refine (clone_any ⟨x.toArray⟩ wr (by simp [ByteArray.size]; omega)).mono ?_
      rintro e w6 ⟨rfl, hb6⟩
      have HO6 := Lib.hid (HO.out.kept (row := none) ⟨hb6.os, hb6.tape, hb6.output, hb6.size, fun k hk _ => hb6.block k hk⟩ (by simp [Value.ownBlock]))
      have hsr := HB.out.size
      have HB6 := Lib.hid (HB.out.trans (hb6.mono hsr))
      have hs6 := hb6.size
      obtain ⟨cx6, fx6, _, hg6⟩ := HCELL.out w6 HO6.out
      have HSET := Lib.hid (own_set HO6.out HX.out)
      clear hb6 cx fx
      go_wp2_with (fail)
      go_roundw
      case rel => exact ⟨j + 1, by go_num, by omega, HSET.out.1, HB6.out.grown HSET.out.2 (by omega) (fun k hk => by injection hk with hk; omega), by simpa [World.setCell] using (by omega : w2.heap.size ≤ w6.heap.size)⟩
      case measure => simp [intOf]; omega
    · have hjl : ¬ ((j : Int) < (l.length : Int)) := by omega
      go_wp2_with (fail)
      go_ret2
      refine ⟨?_, HB.out⟩
      unfold FeOut
      rw [if_pos HQ.out]
      exact ⟨_, rfl, by rw [← HLE.out]; exact own_lower HO.out (by omega)⟩
 · have hn : showW n = none := by simpa using hq
   rw [hn] at hck
   obtain rfl : e = .returned (.int .i64 110) := hck
   have HQ := Lib.hid hq
   clear hq hn
   go_wp2_with (fail)
   go_ret2
   refine ⟨?_, HB2.out⟩
   unfold FeOut
   rw [if_neg HQ.out]
   rfl
