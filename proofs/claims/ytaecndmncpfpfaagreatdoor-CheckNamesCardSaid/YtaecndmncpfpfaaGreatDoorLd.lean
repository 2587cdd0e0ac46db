import Derived.Test.YtaecndmncpfpfaaGreatDoorWq
import Derived.Lib.LaidTab
import Derived.Test.YtaecndmncpfpfaaGreatDoorPr
import Derived.Test.YtaecndmncpfpfaaGreatDoorRows
import Derived.ProofKit
import Derived.LaidMore
import Derived.OpenShut
import Derived.Stop.Joined
namespace Go.Proofs.YtaecndmncpfpfaaGreatDoor
open Go.RowKit
open Knd (BFr)
def Tb (w : World) : Prop := Lib.TabIs Tryz.prog w "internal/strconv.uint64pow10" .u64 Lib.pow10Tab
theorem gPow : Tryz.prog.globalNamed "internal/strconv.uint64pow10" = some 2 := by kernel_rfl
theorem Tb.kept {w w' : World} (h : Tb w) (hw : w'.heap[2]? = w.heap[2]?) : Tb w' := by
 unfold Tb Lib.TabIs World.var? at *
 rw [gPow] at *
 simp only [Option.bind_some] at *
 rw [hw]
 exact h
structure Gl (w : World) : Prop where
 kd : Knd.Glob w
 tb : Tb w
theorem Tb.lt {w : World} (h : Tb w) : 2 < w.heap.size := by
 unfold Tb Lib.TabIs World.var? at h
 rw [gPow] at h
 simp only [Option.bind_some] at h
 split at h
 · rename_i hb
   exact (Array.getElem?_eq_some_iff.1 hb).1
 · cases h
theorem Gl.lt2 {w : World} (h : Gl w) : 2 < w.heap.size := by
 have h1 := h.kd.lt
 have h2 := h.tb.lt
 omega
theorem Gl.below {w w' : World} {b : Nat} (h : Gl w) (hb : Below b w w') (h2 : 2 < b) : Gl w' := ⟨h.kd.kept (hb.block 0 (by omega)), h.tb.kept (hb.block 2 (by omega))⟩
def TwOut (b : Nat) (w : World) (e : Ending) (w' : World) : Option StW → Prop
 | none => e = .returned (.bool false) ∧ BFr b w w'
 | some s => e = .returned (.bool true) ∧ Wr w' b s.1 (s.2 : Int) ∧ BFr b w w'
def TermOk (r : Nat) : Prop := ∀ (b d : Nat) (S : Nat → Prop) (v : Value) (n : Nd) (bs : List UInt8) (k : Nat) (w : World), NdAt w S d v n → (∀ x, S x → x < b) → RgN r n → Wr w b bs (k : Int) → Gl w → 2 < b → bs.length ≤ 100000 → k ≤ bs.length →
 Calls Tryz.prog 81 #[.pointer (some ⟨b, 0, none⟩), v, .int .i64 (r : Int)] w fun e w' => TwOut b w e w' (zJ r n (bs, k))
theorem kidsW_on {f : Nd → StW → Option StW} {n : Nd} {l : List Nd} {p : UInt8} {ps : List UInt8} {mark : UInt8} {s : StW} (h : ¬ (p = 110 ∧ n.op ≠ nameW)) : yD f (n :: l) (p :: ps) mark s = (f n (s.1 ++ [mark], s.2)).bind fun s' => yD f l ps 44 s' := by
 rw [yD, if_neg h]
 cases f n (s.1 ++ [mark], s.2) <;> rfl
theorem kid_cells {w : World} {S : Nat → Prop} {d b o j : Nat} {l : List Nd} (hc : ∀ (j : Nat) (a : Nd), l[j]? = some a → ∃ u0 u1 u2 u3 u4 u5, w.cell? ⟨b, o + j * 6, none⟩ = some u0 ∧ w.cell? ⟨b, o + j * 6 + 1, none⟩ = some u1 ∧ w.cell? ⟨b, o + j * 6 + 2, none⟩ = some u2 ∧ w.cell? ⟨b, o + j * 6 + 3, none⟩ = some u3 ∧ w.cell? ⟨b, o + j * 6 + 4, none⟩ = some u4 ∧ w.cell? ⟨b, o + j * 6 + 5, none⟩ = some u5 ∧ NdAt w S d (.agg #[u0, u1, u2, u3, u4, u5]) a) {a : Nd} (h : l[j]? = some a) :
    ∃ A c K k, w.cell? ⟨b, o + j * 6, none⟩ = some (.string ⟨a.op.toArray⟩) ∧ w.cell? ⟨b, o + j * 6 + 1, none⟩ = some (.int .i64 a.int) ∧ w.cell? ⟨b, o + j * 6 + 2, none⟩ = some (.string ⟨a.text.toArray⟩) ∧ w.cell? ⟨b, o + j * 6 + 3, none⟩ = some (.int .i64 a.ty.kind) ∧ w.cell? ⟨b, o + j * 6 + 4, none⟩ = some (.slice A a.ty.args.length c) ∧ w.cell? ⟨b, o + j * 6 + 5, none⟩ = some (.slice K a.kids.length k) ∧
     NdAt w S d (.agg #[.string ⟨a.op.toArray⟩, .int .i64 a.int, .string ⟨a.text.toArray⟩, .int .i64 a.ty.kind, .slice A a.ty.args.length c, .slice K a.kids.length k]) a ∧ b < w.heap.size := by
 obtain ⟨u0, u1, u2, u3, u4, u5, h0, h1, h2, h3, h4, h5, h6⟩ := hc j a h
 have hbl := World.block_lt_of_cell? w _ h0
 obtain ⟨A, c, K, k, he⟩ := h6.form
 injection he with he
 have he' := congrArg Array.toList he
 simp only [List.cons.injEq, and_true] at he'
 obtain ⟨rfl, rfl, rfl, rfl, rfl, rfl⟩ := he'
 exact ⟨A, c, K, k, h0, h1, h2, h3, h4, h5, h6, hbl⟩
set_option maxRecDepth 100000 in
set_option maxHeartbeats 1000000 in
theorem kids_any (r : Nat) (IH : TermOk r) (b d : Nat) (S : Nat → Prop) (kids : List Nd) (K : Option Addr) (kc : Nat) (p : List UInt8) (least : Nat) (bs : List UInt8) (k : Nat) (w : World)
    (hK : kids.length ≤ kc ∧ (0 < kids.length → ∃ b' o, K = some ⟨b', o, none⟩ ∧ S b' ∧ ∀ (j : Nat) (a : Nd), kids[j]? = some a → ∃ u0 u1 u2 u3 u4 u5, w.cell? ⟨b', o + j * 6, none⟩ = some u0 ∧ w.cell? ⟨b', o + j * 6 + 1, none⟩ = some u1 ∧ w.cell? ⟨b', o + j * 6 + 2, none⟩ = some u2 ∧ w.cell? ⟨b', o + j * 6 + 3, none⟩ = some u3 ∧ w.cell? ⟨b', o + j * 6 + 4, none⟩ = some u4 ∧ w.cell? ⟨b', o + j * 6 + 5, none⟩ = some u5 ∧ NdAt w S d (.agg #[u0, u1, u2, u3, u4, u5]) a))
    (hS : ∀ x, S x → x < b) (hR : ∀ a ∈ kids, RgN r a) (hW : Wr w b bs (k : Int)) (hG : Gl w) (h2 : 2 < b) (hl : bs.length ≤ 5000) (hk : k ≤ bs.length) (hp : p.length ≤ 64) (hr : r ≤ 24) (_hle : least ≤ 64) :
    Calls Tryz.prog 156 #[.pointer (some ⟨b, 0, none⟩), .slice K kids.length kc, .agg #[.string ⟨p.toArray⟩, .int .i64 (least : Int)], .int .i64 (r : Int)] w fun e w' =>
     TwOut b w e w' (if kids.length < least ∨ p.length < kids.length then none else yD (zJ r) kids p 40 (bs, k)) := by
 have HK := Lib.hid hK
 have HRR := Lib.hid hR
 have HW := Lib.hid hW
 have HG := Lib.hid hG
 have HIH := Lib.hid IH
 have HS := Lib.hid hS
 have hbl := hW.lt
 have hpz : (ByteArray.mk p.toArray).size = p.length := by simp [ByteArray.size]
 obtain ⟨ps, hps⟩ : ∃ ps, ps = ByteArray.mk p.toArray := ⟨_, rfl⟩
 have hpb : bl ps = p := by rw [hps]; unfold bl; simp
 rw [← hps] at hpz
 rw [← hps]
 have HPB := Lib.hid hpb
 have hba := (Below.refl w.heap.size w).alloc (Nat.le_refl _) (.cells #[.string ps, .int .i64 (least : Int)] 133)
 have HV1 := Lib.hid (heap_alloc_new w (.cells #[.string ps, .int .i64 (least : Int)] 133))
 have HF1 : Hid (BFr b w (w.alloc (.cells #[.string ps, .int .i64 (least : Int)] 133))) := Knd.BFr.of_below hba (Nat.le_of_lt hbl)
 have HW1 := Lib.hid (hW.below hba)
 clear hK hR hW hG IH hps hpb hS hba
 by_cases hfew : kids.length < least
 · rw [if_pos (.inl hfew)]
   have hf2 : ((kids.length : Int) < (least : Int)) := by omega
   go_enter Tryz.func156, Tryz.ntmps156
   go_wp2_with (fail)
   go_ret
   exact ⟨rfl, HF1.out⟩
 · by_cases hmany : p.length < kids.length
   · rw [if_pos (.inr hmany)]
     have hf2 : ¬ ((kids.length : Int) < (least : Int)) := by omega
     have hf3 : ((ps.size : Int) < (kids.length : Int)) := by omega
     have v0 := zG HV1.out
     have v1 := zF HV1.out
     go_enter Tryz.func156, Tryz.ntmps156
     go_wp2_with (fail)
     go_ret
     exact ⟨rfl, HF1.out⟩
   · rw [if_neg (by omega)]
     have hf2 : ¬ ((kids.length : Int) < (least : Int)) := by omega
     have hf3 : ¬ ((ps.size : Int) < (kids.length : Int)) := by omega
     have v0 := zG HV1.out
     have v1 := zF HV1.out
     go_enter Tryz.func156, Tryz.ntmps156
     go_wp2_with (fail)
     go_loopw [9, 27] (fun mk iv wr => ∃ (j : Nat) (mark : UInt8) (acc : List UInt8) (kk : Nat), mk = .int .u8 (mark.toNat : Int) ∧ iv = .int .i64 (j : Int) ∧ j ≤ kids.length ∧ acc.length ≤ 5000 ∧ kk ≤ acc.length ∧ Hid (yD (zJ r) kids p 40 (bs, k) = yD (zJ r) (kids.drop j) (p.drop j) mark (acc, kk)) ∧ Hid (Wr wr b acc (kk : Int)) ∧ Hid (BFr b w wr) ∧ Hid (wr.heap[w.heap.size]? = some (.cells #[.string ps, .int .i64 (least : Int)] 133 (0, 0)))) (fun _ iv _ => kids.length - (intOf iv).toNat)
     case atStart => exact ⟨0, 40, bs, k, rfl, rfl, Nat.zero_le _, hl, hk, Lib.hid rfl, HW1, HF1, HV1⟩
     case round =>
      obtain ⟨j, mark, acc, kk, rfl, rfl, hj, hal, hkk, HE, HWj, HFj, HVj⟩ := hrel
      by_cases hlt : j < kids.length
      · obtain ⟨a, ha⟩ : ∃ a, kids[j]? = some a := ⟨kids[j], List.getElem?_eq_getElem hlt⟩
        obtain ⟨b', o, rfl, hSb, hcells⟩ := HK.out.2 (by omega)
        have hb'b := HS.out b' hSb
        obtain ⟨A', c', K', k', e0, e1, e2, e3, e4, e5, hnd, hbl'⟩ := kid_cells hcells ha
        have HRA : Hid (RgN r a) := HRR.out a (List.mem_of_getElem? ha)
        have HD : Hid (kids.drop j = a :: kids.drop (j + 1)) := by
         show _ = _
         rw [List.drop_eq_getElem_cons hlt]
         congr 1
         exact Option.some.inj ((List.getElem?_eq_getElem hlt).symm.trans ha)
        have hjp : j < p.length := by omega
        have HDP : Hid (p.drop j = lkB p j :: p.drop (j + 1)) := by show _ = _; rw [List.drop_eq_getElem_cons hjp, lkB_at hjp]
        have hix := str_index ps j (by omega) (by omega)
        rw [← bl_at ps j (by omega), HPB.out] at hix
        have HA : Hid (NdAt wr S d (.agg #[.string ⟨a.op.toArray⟩, .int .i64 a.int, .string ⟨a.text.toArray⟩, .int .i64 a.ty.kind, .slice A' a.ty.args.length c', .slice K' a.kids.length k']) a) := NdAt.move (fun x hx _ => ⟨hx, fun _ => World.cell?_of_block (HFj.out.below.block x (HS.out x hx))⟩) d _ _ hnd
        have c0 := (HFj.out.below.cell (p := ⟨b', o + j * 6, none⟩) hb'b).trans e0
        have c1 := (HFj.out.below.cell (p := ⟨b', o + j * 6 + 1, none⟩) hb'b).trans e1
        have c2 := (HFj.out.below.cell (p := ⟨b', o + j * 6 + 2, none⟩) hb'b).trans e2
        have c3 := (HFj.out.below.cell (p := ⟨b', o + j * 6 + 3, none⟩) hb'b).trans e3
        have c4 := (HFj.out.below.cell (p := ⟨b', o + j * 6 + 4, none⟩) hb'b).trans e4
        have c5 := (HFj.out.below.cell (p := ⟨b', o + j * 6 + 5, none⟩) hb'b).trans e5
        have hbw := HWj.out.lt
        have hjl : ((j : Int) < (kids.length : Int)) := by omega
        have hba := (Below.refl wr.heap.size wr).alloc (Nat.le_refl _) (.cells #[.string ⟨a.op.toArray⟩, .int .i64 a.int, .string ⟨a.text.toArray⟩, .int .i64 a.ty.kind, .slice A' a.ty.args.length c', .slice K' a.kids.length k'] 41)
        have HN2 := Lib.hid (heap_alloc_new wr (.cells #[.string ⟨a.op.toArray⟩, .int .i64 a.int, .string ⟨a.text.toArray⟩, .int .i64 a.ty.kind, .slice A' a.ty.args.length c', .slice K' a.kids.length k'] 41))
        have HV2 := Lib.hid ((Below.heap_alloc wr (.cells #[.string ⟨a.op.toArray⟩, .int .i64 a.int, .string ⟨a.text.toArray⟩, .int .i64 a.ty.kind, .slice A' a.ty.args.length c', .slice K' a.kids.length k'] 41) w.heap.size (zC HVj.out)).trans HVj.out)
        have HW2 := Lib.hid (HWj.out.below hba)
        have HF2 : Hid (BFr b w (wr.alloc (.cells #[.string ⟨a.op.toArray⟩, .int .i64 a.int, .string ⟨a.text.toArray⟩, .int .i64 a.ty.kind, .slice A' a.ty.args.length c', .slice K' a.kids.length k'] 41))) := HFj.out.trans (Knd.BFr.of_below hba (Nat.le_of_lt hbw))
        have hwl := zC HVj.out
        clear e0 e1 e2 e3 e4 e5 hnd hcells ha hba
        go_upto_region 7 with (fail)
        generalize wr.alloc (.cells #[.string ⟨a.op.toArray⟩, .int .i64 a.int, .string ⟨a.text.toArray⟩, .int .i64 a.ty.kind, .slice A' a.ty.args.length c', .slice K' a.kids.length k'] 41) = w2 at *
        obtain ⟨KB, hKB⟩ : ∃ KB, KB = wr.heap.size := ⟨_, rfl⟩
        rw [← hKB] at HN2
        rw [← hKB]
        have hKBb : KB ≠ b := by omega
        clear hKB
        go_wp2_with (fail)
        refine (wrByte_any b acc (kk : Int) mark w2 HW2.out (by omega)).mono ?_
        rintro e w3 ⟨rfl, hw3, hf3⟩
        have HW3 := Lib.hid hw3
        have HF3 := Lib.hid (HF2.out.trans hf3)
        have HN3 := Lib.hid (hf3.cells HN2.out (by omega) (by decide))
        have HV3 := Lib.hid (hf3.cells HV2.out (by omega) (by decide))
        have HG3 := Lib.hid (HG.out.below HF3.out.below h2)
        have HA3 : Hid (NdAt w3 S d (.agg #[.string ⟨a.op.toArray⟩, .int .i64 a.int, .string ⟨a.text.toArray⟩, .int .i64 a.ty.kind, .slice A' a.ty.args.length c', .slice K' a.kids.length k']) a) := NdAt.move (fun x hx hl => ⟨hx, fun _ => World.cell?_of_block ((HF3.out.below.block x (HS.out x hx)).trans (HFj.out.below.block x (HS.out x hx)).symm)⟩) d _ _ HA.out
        clear hw3 hf3 c0 c1 c2 c3 c4 c5
        have d0 := zN HN3.out
        have d1 := zR HN3.out
        have d2 := zQ HN3.out
        have d3 := zP HN3.out
        have d4 := zO HN3.out
        have d5 := zL HN3.out
        have dl := zC HN3.out
        have v0 := zG HV3.out
        have v1 := zF HV3.out
        have vl := zC HV3.out
        generalize hpj : lkB p j = pj at *
        clear hpj
        obtain ⟨os, hos⟩ : ∃ os, os = ByteArray.mk a.op.toArray := ⟨_, rfl⟩
        have hosb : bl os = a.op := by rw [hos]; unfold bl; simp
        by_cases hp1 : pj = 110
        · have g1 : ((pj.toNat : Int) == 110) = true := by rw [hp1]; rfl
          by_cases ho1 : a.op = nameW
          · have g2 : (a.op == [110, 97, 109, 101]) = true := by rw [ho1]; rfl
            have g3 : (a.op = [110, 97, 109, 101]) = True := eq_true ho1
            have hcond : ¬ (pj = 110 ∧ a.op ≠ nameW) := fun h => h.2 ho1
            clear hp1 ho1 hos hosb
            have hI : Calls Tryz.prog 81 #[.pointer (some ⟨b, 0, none⟩), .agg #[.string ⟨a.op.toArray⟩, .int .i64 a.int, .string ⟨a.text.toArray⟩, .int .i64 a.ty.kind, .slice A' a.ty.args.length c', .slice K' a.kids.length k'], .int .i64 (r : Int)] w3 fun e w' => TwOut b w3 e w' (zJ r a (acc ++ [mark], kk)) := HIH.out b d S _ a (acc ++ [mark]) kk w3 HA3.out HS.out HRA.out HW3.out HG3.out h2 (by simp; omega) (by simp; omega)
            have HI := Lib.hid hI
            clear hI
            go_wp2_with (fail)
            refine HI.out.mono ?_
            have HT : Hid (yD (zJ r) kids p 40 (bs, k) = (zJ r a (acc ++ [mark], kk)).bind fun s' => yD (zJ r) (kids.drop (j + 1)) (p.drop (j + 1)) 44 s') := by
             show _ = _
             rw [HE.out, HD.out, HDP.out, kidsW_on hcond]
            have HLN := Lib.hid (fun s' hs' => termW_len r a (acc ++ [mark], kk) s' HRA.out hs')
            have HCN := Lib.hid (fun s' hs' => termW_cnt r a (acc ++ [mark], kk) s' hs' (by simp; omega))
            clear hcond
            revert HT HLN HCN
            generalize zJ r a (acc ++ [mark], kk) = q
            intro HT HLN HCN e w4 h4
            match q, h4, HT, HLN, HCN with
            | none, h4, HT, _, _ =>
              obtain ⟨rfl, hf4⟩ := h4
              have HF4 := Lib.hid (HF3.out.trans hf4)
              have HR : Hid (yD (zJ r) kids p 40 (bs, k) = none) := HT
              clear hf4
              go_wp2_with (fail)
              go_ret
              rw [HR.out]
              exact ⟨rfl, HF4.out⟩
            | some (acc4, kk4), h4, HT, HLN, HCN =>
              obtain ⟨rfl, hw4, hf4⟩ := h4
              have hl4 : acc4.length ≤ 4900 + r := HLN.out _ rfl
              have hk4 : kk4 ≤ acc4.length := HCN.out _ rfl
              have HW4 : Hid (Wr w4 b acc4 (kk4 : Int)) := hw4
              have HF4 := Lib.hid (HF3.out.trans hf4)
              have HV4 := Lib.hid (hf4.cells HV3.out (by omega) (by decide))
              have HR : Hid (yD (zJ r) kids p 40 (bs, k) = yD (zJ r) (kids.drop (j + 1)) (p.drop (j + 1)) 44 (acc4, kk4)) := HT
              clear hf4 hw4 HLN HCN HT
              go_wp2_with (fail)
              go_roundw
              case rel => exact ⟨j + 1, 44, acc4, kk4, rfl, by go_num, by omega, by omega, hk4, HR, HW4, HF4, HV4⟩
              case measure => simp [intOf]; omega
          · have g3 : (a.op = [110, 97, 109, 101]) = False := eq_false ho1
            have g2 : (a.op == [110, 97, 109, 101]) = false := beq_eq_false_iff_ne.2 ho1
            have HR : Hid (yD (zJ r) kids p 40 (bs, k) = none) := by
             show _ = _
             rw [HE.out, HD.out, HDP.out]
             simp only [yD]
             rw [if_pos ⟨hp1, ho1⟩]
            clear hp1 ho1 hos hosb
            go_wp2_with (fail)
            go_ret
            rw [HR.out]
            exact ⟨rfl, HF3.out⟩
        · have g1 : ((pj.toNat : Int) == 110) = false := u8_beq_false (b := 110) hp1
          have hcond : ¬ (pj = 110 ∧ a.op ≠ nameW) := fun h => hp1 h.1
          clear hp1 hos hosb
          have hI : Calls Tryz.prog 81 #[.pointer (some ⟨b, 0, none⟩), .agg #[.string ⟨a.op.toArray⟩, .int .i64 a.int, .string ⟨a.text.toArray⟩, .int .i64 a.ty.kind, .slice A' a.ty.args.length c', .slice K' a.kids.length k'], .int .i64 (r : Int)] w3 fun e w' => TwOut b w3 e w' (zJ r a (acc ++ [mark], kk)) := HIH.out b d S _ a (acc ++ [mark]) kk w3 HA3.out HS.out HRA.out HW3.out HG3.out h2 (by simp; omega) (by simp; omega)
          have HI := Lib.hid hI
          clear hI
          go_wp2_with (fail)
          refine HI.out.mono ?_
          have HT : Hid (yD (zJ r) kids p 40 (bs, k) = (zJ r a (acc ++ [mark], kk)).bind fun s' => yD (zJ r) (kids.drop (j + 1)) (p.drop (j + 1)) 44 s') := by
           show _ = _
           rw [HE.out, HD.out, HDP.out, kidsW_on hcond]
          have HLN := Lib.hid (fun s' hs' => termW_len r a (acc ++ [mark], kk) s' HRA.out hs')
          have HCN := Lib.hid (fun s' hs' => termW_cnt r a (acc ++ [mark], kk) s' hs' (by simp; omega))
          clear hcond
          revert HT HLN HCN
          generalize zJ r a (acc ++ [mark], kk) = q
          intro HT HLN HCN e w4 h4
          match q, h4, HT, HLN, HCN with
          | none, h4, HT, _, _ =>
            obtain ⟨rfl, hf4⟩ := h4
            have HF4 := Lib.hid (HF3.out.trans hf4)
            have HR : Hid (yD (zJ r) kids p 40 (bs, k) = none) := HT
            clear hf4
            go_wp2_with (fail)
            go_ret
            rw [HR.out]
            exact ⟨rfl, HF4.out⟩
          | some (acc4, kk4), h4, HT, HLN, HCN =>
            obtain ⟨rfl, hw4, hf4⟩ := h4
            have hl4 : acc4.length ≤ 4900 + r := HLN.out _ rfl
            have hk4 : kk4 ≤ acc4.length := HCN.out _ rfl
            have HW4 : Hid (Wr w4 b acc4 (kk4 : Int)) := hw4
            have HF4 := Lib.hid (HF3.out.trans hf4)
            have HV4 := Lib.hid (hf4.cells HV3.out (by omega) (by decide))
            have HR : Hid (yD (zJ r) kids p 40 (bs, k) = yD (zJ r) (kids.drop (j + 1)) (p.drop (j + 1)) 44 (acc4, kk4)) := HT
            clear hf4 hw4 HLN HCN HT
            go_wp2_with (fail)
            go_roundw
            case rel => exact ⟨j + 1, 44, acc4, kk4, rfl, by go_num, by omega, by omega, hk4, HR, HW4, HF4, HV4⟩
            case measure => simp [intOf]; omega
      · have hje : j = kids.length := by omega
        have hjl : ¬ ((j : Int) < (kids.length : Int)) := by omega
        have HR : Hid (yD (zJ r) kids p 40 (bs, k) = some (acc ++ [41], kk)) := by
         show _ = _
         rw [HE.out, List.drop_eq_nil_of_le (by omega)]
         rfl
        have hbw := HWj.out.lt
        have h41 : (((41 : UInt8).toNat : Nat) : Int) = 41 := by decide
        go_wp2_with (fail)
        have h1 := wrByte_any b acc (kk : Int) 41 wr HWj.out (by omega)
        rw [h41] at h1
        refine h1.mono ?_
        clear h1
        rintro e w3 ⟨rfl, hw3, hf3⟩
        have HW3 := Lib.hid hw3
        have HF3 := Lib.hid (HFj.out.trans hf3)
        clear hw3 hf3
        go_wp2_with (fail)
        go_ret
        rw [HR.out]
        exact ⟨rfl, HW3.out, HF3.out⟩
end Go.Proofs.YtaecndmncpfpfaaGreatDoor
namespace Go.Proofs.YtaecndmncpfpfaaGreatDoor
open Go.RowKit
open Knd (BFr)
theorem bare_eq (i : Int) (t : List UInt8) (k : Int) (n m : Nat) : bareV i ⟨t.toArray⟩ k n m = (decide (i = 0) && (decide (t = []) && (decide (k = 0) && (decide (n = 0) && decide (m = 0))))) := by
 unfold bareV bl
 rfl
theorem bareN_eq (i : Int) (t : List UInt8) (ty : Ty) (kids : List Nd) : bareN i t ty kids = bareV i ⟨t.toArray⟩ ty.kind ty.args.length kids.length := by rw [bare_eq]; rfl
theorem bfr_own {b NB : Nat} {w W : World} (h : BFr b w W) (hb : b ≤ NB) (hw : w.heap.size ≤ NB) (i : Nat) (u : Value) : BFr b w (W.setCell ⟨NB, i, none⟩ u) :=
 ⟨h.below.setCell (p := ⟨NB, i, none⟩) hb u, fun k o hk h1 h3 => (Below.heap_setCell W ⟨NB, i, none⟩ u k (by have := zC hk; show k ≠ NB; omega)).trans (h.kept k o hk h1 h3)⟩
theorem wr_farAt {w : World} {b NB : Nat} {p : Value} {bs : List UInt8} {k : Int} {cs : Array Value} (h : WrAt w b p bs k) (hN : w.heap[NB]? = some (.cells cs 41 (0, 0))) (hne : NB ≠ b) (i : Nat) (u : Value) : WrAt (w.setCell ⟨NB, i, none⟩ u) b p bs k := by
 obtain ⟨v, h2, h3, h4⟩ := h
 have hv : v.ownBlock ≠ some NB := fun e => by
  obtain ⟨c, fz, e2⟩ := Knd.own_kind h3 NB e
  rw [hN] at e2
  injection e2 with e2
  injection e2 with _ e2 _
  exact absurd e2 (by decide)
 refine ⟨v, (Below.heap_setCell w ⟨NB, i, none⟩ u b (fun e => hne e.symm)).trans h2, ?_, h4⟩
 exact h3.kept (row := some NB) ⟨rfl, rfl, rfl, by simp [World.setCell], fun k _ hk => Below.heap_setCell _ _ _ _ (fun e => hk (by simp [e]))⟩ (Or.inr hv)
theorem Wr.far {w : World} {b NB : Nat} {bs : List UInt8} {k : Int} {cs : Array Value} (h : Wr w b bs k) (hN : w.heap[NB]? = some (.cells cs 41 (0, 0))) (hne : NB ≠ b) (i : Nat) (u : Value) : Wr (w.setCell ⟨NB, i, none⟩ u) b bs k :=
 h.elim (fun x => .inl (wr_farAt x hN hne i u)) (fun x => .inr (wr_farAt x hN hne i u))
theorem wr_far2 {w : World} {b NB : Nat} {bs : List UInt8} {k : Int} {cs : Array Value} (h : Wr w b bs k) (hN : w.heap[NB]? = some (.cells cs 41 (0, 0))) (hne : NB ≠ b) (i j : Nat) (u v : Value) : Wr ((w.setCell ⟨NB, i, none⟩ u).setCell ⟨NB, j, none⟩ v) b bs k := by
 have h1 : (w.setCell ⟨NB, i, none⟩ u).heap[NB]? = some (.cells (cs.setIfInBounds i u) 41 (0, 0)) := by simp [World.setCell, Array.getElem?_modify, hN]
 exact (h.far hN hne i u).far h1 hne j v
theorem kids_move {w w' : World} {S : Nat → Prop} {b d kc : Nat} {K : Option Addr} {kids : List Nd}
    (hK : kids.length ≤ kc ∧ (0 < kids.length → ∃ b' o, K = some ⟨b', o, none⟩ ∧ S b' ∧ ∀ (j : Nat) (a : Nd), kids[j]? = some a → ∃ u0 u1 u2 u3 u4 u5, w.cell? ⟨b', o + j * 6, none⟩ = some u0 ∧ w.cell? ⟨b', o + j * 6 + 1, none⟩ = some u1 ∧ w.cell? ⟨b', o + j * 6 + 2, none⟩ = some u2 ∧ w.cell? ⟨b', o + j * 6 + 3, none⟩ = some u3 ∧ w.cell? ⟨b', o + j * 6 + 4, none⟩ = some u4 ∧ w.cell? ⟨b', o + j * 6 + 5, none⟩ = some u5 ∧ NdAt w S d (.agg #[u0, u1, u2, u3, u4, u5]) a))
    (hS : ∀ x, S x → x < b) (hb : Below b w w') :
    kids.length ≤ kc ∧ (0 < kids.length → ∃ b' o, K = some ⟨b', o, none⟩ ∧ S b' ∧ ∀ (j : Nat) (a : Nd), kids[j]? = some a → ∃ u0 u1 u2 u3 u4 u5, w'.cell? ⟨b', o + j * 6, none⟩ = some u0 ∧ w'.cell? ⟨b', o + j * 6 + 1, none⟩ = some u1 ∧ w'.cell? ⟨b', o + j * 6 + 2, none⟩ = some u2 ∧ w'.cell? ⟨b', o + j * 6 + 3, none⟩ = some u3 ∧ w'.cell? ⟨b', o + j * 6 + 4, none⟩ = some u4 ∧ w'.cell? ⟨b', o + j * 6 + 5, none⟩ = some u5 ∧ NdAt w' S d (.agg #[u0, u1, u2, u3, u4, u5]) a) := by
 refine ⟨hK.1, fun hl => ?_⟩
 obtain ⟨b', o, hk, hs, hj⟩ := hK.2 hl
 have hc : ∀ i, w'.cell? ⟨b', i, none⟩ = w.cell? ⟨b', i, none⟩ := fun i => hb.cell (p := ⟨b', i, none⟩) (hS b' hs)
 refine ⟨b', o, hk, hs, fun j a ha => ?_⟩
 obtain ⟨u0, u1, u2, u3, u4, u5, h0, h1, h2, h3, h4, h5, h6⟩ := hj j a ha
 exact ⟨u0, u1, u2, u3, u4, u5, (hc _).trans h0, (hc _).trans h1, (hc _).trans h2, (hc _).trans h3, (hc _).trans h4, (hc _).trans h5, NdAt.move (fun x hx _ => ⟨hx, fun _ => World.cell?_of_block (hb.block x (hS x hx))⟩) d _ _ h6⟩
theorem tw_bare {b : Nat} {w w' : World} {s : StW} {x : Bool} (hW : Wr w' b s.1 (s.2 : Int)) (hF : BFr b w w') : TwOut b w (.returned (.bool x)) w' (if x = true then some s else none) := by
 cases x with
 | true => exact ⟨rfl, hW, hF⟩
 | false => exact ⟨rfl, hF⟩
set_option maxRecDepth 100000 in
set_option maxHeartbeats 2000000 in
theorem wordW_any (r : Nat) (IH : TermOk r) (b d : Nat) (S : Nat → Prop) (v : Value) (n : Nd) (bs : List UInt8) (k : Nat) (w : World) (hN : NdAt w S d v n) (hS : ∀ x, S x → x < b) (hR : RgN (r + 1) n) (hW : Wr w b bs (k : Int)) (hG : Gl w) (h2 : 2 < b) (hl : bs.length ≤ 4096) (hk : k ≤ bs.length + 1) (hr : r ≤ 24) :
    Calls Tryz.prog 127 #[.pointer (some ⟨b, 0, none⟩), v, .int .i64 ((r : Int) + 1)] w fun e w' => TwOut b w e w' (wordW (zJ r) n (bs, k)) := by
 cases d with
 | zero => exact hN.elim
 | succ d =>
 obtain ⟨A, c, K, kc, rfl, ⟨dt, hty⟩, hkids⟩ := hN
 have HTY := Lib.hid hty
 have HKD := Lib.hid hkids
 have HRR := Lib.hid hR
 have HW := Lib.hid hW
 have HG := Lib.hid hG
 have HIH := Lib.hid IH
 have HS := Lib.hid hS
 have hbl := hW.lt
 have hba := (Below.refl w.heap.size w).alloc (Nat.le_refl _) (.cells #[.string ⟨n.op.toArray⟩, .int .i64 n.int, .string ⟨n.text.toArray⟩, .int .i64 n.ty.kind, .slice A n.ty.args.length c, .slice K n.kids.length kc] 41)
 have HN1 := Lib.hid (heap_alloc_new w (.cells #[.string ⟨n.op.toArray⟩, .int .i64 n.int, .string ⟨n.text.toArray⟩, .int .i64 n.ty.kind, .slice A n.ty.args.length c, .slice K n.kids.length kc] 41))
 have HF1 : Hid (BFr b w (w.alloc (.cells #[.string ⟨n.op.toArray⟩, .int .i64 n.int, .string ⟨n.text.toArray⟩, .int .i64 n.ty.kind, .slice A n.ty.args.length c, .slice K n.kids.length kc] 41))) := Knd.BFr.of_below hba (Nat.le_of_lt hbl)
 have HW1 := Lib.hid (hW.below hba)
 have hs1 : (w.alloc (.cells #[.string ⟨n.op.toArray⟩, .int .i64 n.int, .string ⟨n.text.toArray⟩, .int .i64 n.ty.kind, .slice A n.ty.args.length c, .slice K n.kids.length kc] 41)).heap.size = w.heap.size + 1 := by simp
 clear hty hkids hR hW hG IH hS hba
 go_enter Tryz.func127, Tryz.ntmps127
 go_wp2_with (fail)
 generalize w.alloc (.cells #[.string ⟨n.op.toArray⟩, .int .i64 n.int, .string ⟨n.text.toArray⟩, .int .i64 n.ty.kind, .slice A n.ty.args.length c, .slice K n.kids.length kc] 41) = w1 at *
 obtain ⟨NB, hNB⟩ : ∃ NB, NB = w.heap.size := ⟨_, rfl⟩
 rw [← hNB] at HN1
 try rw [← hNB]
 have hNb : NB ≠ b := by omega
 have HNB := Lib.hid hNB
 clear hNB
 refine (wordOf_any n.op w1).mono ?_
 rintro e w2 ⟨hout, hb2⟩
 have HF2 : Hid (BFr b w w2) := HF1.out.trans (Knd.BFr.of_below hb2 (by omega))
 have HW2 := Lib.hid (HW1.out.below hb2)
 have hNl := zC HN1.out
 have HN2 := Lib.hid ((hb2.block NB hNl).trans HN1.out)
 have hs2 := hb2.size
 have d0 := zN HN2.out
 have d1 := zR HN2.out
 have d2 := zQ HN2.out
 have d3 := zP HN2.out
 have d4 := zO HN2.out
 have d5 := zL HN2.out
 have dl := zC HN2.out
 clear hb2
 have HE : Hid (wordW (zJ r) n (bs, k) = wordW (zJ r) n (bs, k)) := Lib.hid rfl
 revert hout HE
 cases hw : wdP n.op with
 | none =>
   intro hout HE
   obtain rfl : e = .returned (.tuple #[.agg #[.string ⟨#[]⟩, .int .i64 0], .bool false]) := hout
   have HR : Hid (wordW (zJ r) n (bs, k) = none) := by show _ = _; unfold wordW; rw [hw]
   clear hw HE
   go_wp2_with (fail)
   go_ret
   rw [HR.out]
   exact ⟨rfl, HF2.out.trans (Knd.BFr.of_below ((Below.refl _ _).alloc (Nat.le_refl _) _) (by omega))⟩
 | some pl =>
   obtain ⟨p, least⟩ := pl
   intro hout HE
   obtain rfl : e = .returned (.tuple #[.agg #[.string ⟨p.toArray⟩, .int .i64 (least : Int)], .bool true]) := hout
   have HOK := Lib.hid (wdP_ok hw)
   have hol := wd_le hw
   have wdp1 := wd_pos hw
   have HR : Hid (wordW (zJ r) n (bs, k) = wordP (zJ r) p least n (bs, k)) := by show _ = _; unfold wordW; rw [hw]
   clear hw HE
   have HV3 := Lib.hid (heap_alloc_new w2 (.cells #[.string ⟨p.toArray⟩, .int .i64 (least : Int)] 133))
   have hbv := (Below.refl w2.heap.size w2).alloc (Nat.le_refl _) (.cells #[.string ⟨p.toArray⟩, .int .i64 (least : Int)] 133)
   have HW3 := Lib.hid (HW2.out.below hbv)
   have HF3 : Hid (BFr b w (w2.alloc (.cells #[.string ⟨p.toArray⟩, .int .i64 (least : Int)] 133))) := HF2.out.trans (Knd.BFr.of_below hbv (Nat.le_of_lt HW2.out.lt))
   have HN3 := Lib.hid ((hbv.block NB dl).trans HN2.out)
   clear hbv
   go_upto_region 4 with (fail)
   obtain ⟨VB, hVB⟩ : ∃ VB, VB = w2.heap.size := ⟨_, rfl⟩
   rw [← hVB] at HV3
   rw [← hVB]
   have hVb : VB ≠ b := by have := HW2.out.lt; omega
   have hVN : VB ≠ NB := by omega
   have HVB := Lib.hid hVB
   clear hVB
   generalize w2.alloc (.cells #[.string ⟨p.toArray⟩, .int .i64 (least : Int)] 133) = w3 at *
   clear d0 d1 d2 d3 d4 d5 dl
   have d0 := zN HN3.out
   have d1 := zR HN3.out
   have d2 := zQ HN3.out
   have d3 := zP HN3.out
   have d4 := zO HN3.out
   have d5 := zL HN3.out
   have f0 := zB HN3.out 0
   have f1 := zB HN3.out 1
   have f2 := zB HN3.out 2
   have f3 := zB HN3.out 3
   have f4 := zB HN3.out 4
   have f5 := zB HN3.out 5
   have dl := zC HN3.out
   have v0 := zG HV3.out
   have v1 := zF HV3.out
   have vl := zC HV3.out
   go_region_with (go_at_call 123; refine (wrString_any b bs (k : Int) ⟨n.op.toArray⟩ w3.drew HW3.out (by simp [ByteArray.size]; omega)).mono ?_; rintro e w4 ⟨rfl, hw4, hf4'⟩; have hf4 := bfr_drew hf4')
   have HW4 : Hid (Wr w4 b (bs ++ n.op) (k : Int)) := hw4
   have HF4 := Lib.hid (HF3.out.trans hf4)
   have HN4 := Lib.hid (hf4.cells HN3.out hNb (by decide))
   have HV4 := Lib.hid (hf4.cells HV3.out hVb (by decide))
   clear hw4 hf4 hf4' d0 d1 d2 d3 d4 d5 dl f0 f1 f2 f3 f4 f5 v0 v1 vl
   have d0 := zN HN4.out
   have d1 := zR HN4.out
   have d2 := zQ HN4.out
   have d3 := zP HN4.out
   have d4 := zO HN4.out
   have d5 := zL HN4.out
   have f0 := zB HN4.out 0
   have f1 := zB HN4.out 1
   have f2 := zB HN4.out 2
   have f3 := zB HN4.out 3
   have f4 := zB HN4.out 4
   have f5 := zB HN4.out 5
   have dl := zC HN4.out
   have v0 := zG HV4.out
   have v1 := zF HV4.out
   have vl := zC HV4.out
   have hh := fun (W : World) => has_any p (least : Int) 101 W
   simp only [show (((101 : UInt8).toNat : Nat) : Int) = 101 from by decide] at hh
   have HH := Lib.hid hh
   clear hh
   go_wp2_with (fail)
   refine (HH.out _).mono ?_
   clear HH
   rintro e w5 ⟨rfl, hb5⟩
   have HW5 := Lib.hid (HW4.out.below hb5)
   have HF5 : Hid (BFr b w w5) := HF4.out.trans (Knd.BFr.of_below hb5 (Nat.le_of_lt HW4.out.lt))
   have HN5 := Lib.hid ((hb5.block NB (zC HN4.out)).trans HN4.out)
   have HV5 := Lib.hid ((hb5.block VB (zC HV4.out)).trans HV4.out)
   clear hb5
   clear d0 d1 d2 d3 d4 d5 dl f0 f1 f2 f3 f4 f5
   clear v0 v1 vl
   have d0 := zN HN5.out
   have d1 := zR HN5.out
   have d2 := zQ HN5.out
   have d3 := zP HN5.out
   have d4 := zO HN5.out
   have d5 := zL HN5.out
   have f0 := zB HN5.out 0
   have f1 := zB HN5.out 1
   have f2 := zB HN5.out 2
   have f3 := zB HN5.out 3
   have f4 := zB HN5.out 4
   have f5 := zB HN5.out 5
   have dl := zC HN5.out
   have v0 := zG HV5.out
   have v1 := zF HV5.out
   have vl := zC HV5.out
   have hr1 : (r : Int) + 1 - 1 = (r : Int) := by omega
   cases h101 : hasB p 101 with
   | true =>
     have HR2 : Hid (wordW (zJ r) n (bs, k) = (if n.kids.length < least ∨ p.length < n.kids.length then none else yD (zJ r) n.kids p 40 (bs ++ n.op, k)).bind fun s' => if bareN n.int n.text n.ty [] then some s' else none) := by
      show _ = _
      rw [HR.out, wordP, if_pos h101]
      split
      · rfl
      · rfl
     have hkm := kids_move (kc := kc) HKD.out HS.out HF5.out.below
     have HLN : Hid (∀ s', yD (zJ r) n.kids p 40 (bs ++ n.op, k) = some s' → s'.1.length ≤ 4900 + r + 1) := fun s' hs' => kidsW_len n.kids p 40 _ _ (fun a ha s s' h => termW_len r a s s' (HRR.out.2.2.2 a ha) h) (by simp; omega) hs'
     have hK := kids_any r HIH.out b d S n.kids K kc p least (bs ++ n.op) k w5 hkm HS.out HRR.out.2.2.2 HW5.out (HG.out.below HF5.out.below h2) h2 (by simp; omega) (by simp; omega) HOK.out.1 hr HOK.out.2.1
     have HKK := Lib.hid hK
     clear hK hkm h101 HR
     go_wp2_with (fail)
     refine HKK.out.mono ?_
     revert HR2
     clear HKK
     generalize (if n.kids.length < least ∨ p.length < n.kids.length then none else yD (zJ r) n.kids p 40 (bs ++ n.op, k)) = q
     intro HR2 e w6 h6
     match q, h6, HR2 with
     | none, h6, HR2 =>
       obtain ⟨rfl, hf6⟩ := h6
       have HR3 : Hid (wordW (zJ r) n (bs, k) = none) := HR2
       have HF6 := Lib.hid (HF5.out.trans hf6)
       clear hf6 HR2
       go_wp2_with (fail)
       go_ret
       rw [HR3.out]
       exact ⟨rfl, HF6.out⟩
     | some s6, h6, HR2 =>
       obtain ⟨rfl, hw6, hf6⟩ := h6
       have HR3 : Hid (wordW (zJ r) n (bs, k) = if bareN n.int n.text n.ty [] = true then some s6 else none) := HR2
       have HW6 := Lib.hid hw6
       have HF6 := Lib.hid (HF5.out.trans hf6)
       have HN6 := Lib.hid (hf6.cells HN5.out hNb (by decide))
       clear hw6 hf6 HR2 d0 d1 d2 d3 d4 d5 dl f0 f1 f2 f3 f4 f5 v0 v1 vl
       have d0 := zN HN6.out
       have d1 := zR HN6.out
       have d2 := zQ HN6.out
       have d3 := zP HN6.out
       have d4 := zO HN6.out
       have d5 := zL HN6.out
       have f0 := zB HN6.out 0
       have f1 := zB HN6.out 1
       have f2 := zB HN6.out 2
       have f3 := zB HN6.out 3
       have f4 := zB HN6.out 4
       have f5 := zB HN6.out 5
       have dl := zC HN6.out
       have HWx := Lib.hid (HW6.out.far HN6.out hNb 5 (.slice none 0 0))
       have HFx := Lib.hid (bfr_own (NB := NB) HF6.out (by have := HNB.out; omega) (by have := HNB.out; omega) 5 (.slice none 0 0))
       go_wp2_with (fail)
       refine (isBare_any ⟨n.op.toArray⟩ n.int ⟨n.text.toArray⟩ n.ty.kind A n.ty.args.length c none 0 0 _).mono ?_
       rintro e w9 ⟨rfl, hb9⟩
       have HW9 := Lib.hid (HWx.out.below hb9)
       have HF9 := Lib.hid (HFx.out.trans (Knd.BFr.of_below hb9 (Nat.le_of_lt HWx.out.lt)))
       clear hb9
       go_wp2_with (fail)
       go_ret
       rw [HR3.out, bareN_eq]
       exact tw_bare HW9.out HF9.out
   | false =>
     clear HKD
     have hh := fun (W : World) => has_any p (least : Int) 100 W
     simp only [show (((100 : UInt8).toNat : Nat) : Int) = 100 from by decide] at hh
     have HH := Lib.hid hh
     clear hh
     go_wp2_with (fail)
     refine (HH.out _).mono ?_
     clear HH
     rintro e w6 ⟨rfl, hb6⟩
     have HW6 := Lib.hid (HW5.out.below hb6)
     have HF6 : Hid (BFr b w w6) := HF5.out.trans (Knd.BFr.of_below hb6 (Nat.le_of_lt HW5.out.lt))
     have HN6 := Lib.hid ((hb6.block NB (zC HN5.out)).trans HN5.out)
     have HV6 := Lib.hid ((hb6.block VB (zC HV5.out)).trans HV5.out)
     clear hb6
     clear d0 d1 d2 d3 d4 d5 dl f0 f1 f2 f3 f4 f5
     clear v0 v1 vl
     have d0 := zN HN6.out
     have d1 := zR HN6.out
     have d2 := zQ HN6.out
     have d3 := zP HN6.out
     have d4 := zO HN6.out
     have d5 := zL HN6.out
     have f0 := zB HN6.out 0
     have f1 := zB HN6.out 1
     have f2 := zB HN6.out 2
     have f3 := zB HN6.out 3
     have f4 := zB HN6.out 4
     have f5 := zB HN6.out 5
     have dl := zC HN6.out
     have v0 := zG HV6.out
     have v1 := zF HV6.out
     have vl := zC HV6.out
     cases h100 : hasB p 100 with
     | true =>
       have HR2 : Hid (wordW (zJ r) n (bs, k) = if n.int < 0 ∨ 9 < n.int then none else if bareN 0 n.text n.ty n.kids then some (bs ++ n.op ++ ([40] ++ Lib.itoa n.int ++ [41]), k) else none) := by
        show _ = _
        rw [HR.out, wordP, if_neg (by rw [h101]; decide), if_pos h100]
       clear HR h101 h100
       by_cases hx0 : n.int < 0
       · have HR3 : Hid (wordW (zJ r) n (bs, k) = none) := by show _ = _; rw [HR2.out, if_pos (.inl hx0)]
         go_wp2_with (fail)
         go_ret
         rw [HR3.out]
         exact ⟨rfl, HF6.out⟩
       · by_cases hx9 : 9 < n.int
         · have HR3 : Hid (wordW (zJ r) n (bs, k) = none) := by show _ = _; rw [HR2.out, if_pos (.inr hx9)]
           go_wp2_with (fail)
           go_ret
           rw [HR3.out]
           exact ⟨rfl, HF6.out⟩
         · have HR3 : Hid (wordW (zJ r) n (bs, k) = if bareN 0 n.text n.ty n.kids = true then some (bs ++ n.op ++ ([40] ++ Lib.itoa n.int ++ [41]), k) else none) := by show _ = _; rw [HR2.out, if_neg (by omega)]
           clear HR2
           have hit : ∀ W : World, Calls Tryz.prog 124 #[.int .i64 n.int] W fun e w' => e = .returned (.string ⟨(Lib.itoa n.int).toArray⟩) ∧ w' = W := fun W => by
            have h := Tryz.strconv_Itoa_small n.int.toNat (by omega) W
            rw [show ((n.int.toNat : Nat) : Int) = n.int by omega] at h
            unfold Lib.itoa
            rw [if_neg hx0]
            exact h
           have hil : (Lib.itoa n.int).length ≤ 21 := itoa_le _ (by omega) (by omega)
           have HIT := Lib.hid hit
           clear hit
           go_wp2_with (fail)
           refine (HIT.out _).mono ?_
           rintro e w7 ⟨rfl, rfl⟩
           clear HIT
           go_wp2_with (fail)
           refine (bracket_any b _ (k : Int) ⟨(Lib.itoa n.int).toArray⟩ w7 HW6.out (by simp [ByteArray.size]; omega)).mono ?_
           rintro e w8 ⟨⟨v8, rfl⟩, hw8, hf8⟩
           have HW8 : Hid (Wr w8 b (bs ++ n.op ++ ([40] ++ Lib.itoa n.int ++ [41])) (k : Int)) := by
            show Wr _ _ _ _
            have := hw8
            simpa [bl, List.append_assoc] using this
           have HF8 := Lib.hid (HF6.out.trans hf8)
           have HN8 := Lib.hid (hf8.cells HN6.out hNb (by decide))
           clear hw8 hf8 d0 d1 d2 d3 d4 d5 dl f0 f1 f2 f3 f4 f5 v0 v1 vl
           have d0 := zN HN8.out
           have d1 := zR HN8.out
           have d2 := zQ HN8.out
           have d3 := zP HN8.out
           have d4 := zO HN8.out
           have d5 := zL HN8.out
           have f0 := zB HN8.out 0
           have f1 := zB HN8.out 1
           have f2 := zB HN8.out 2
           have f3 := zB HN8.out 3
           have f4 := zB HN8.out 4
           have f5 := zB HN8.out 5
           have dl := zC HN8.out
           have HWx := Lib.hid (HW8.out.far HN8.out hNb 1 (.int .i64 0))
           have HFx := Lib.hid (bfr_own (NB := NB) HF8.out (by have := HNB.out; omega) (by have := HNB.out; omega) 1 (.int .i64 0))
           go_wp2_with (fail)
           refine (isBare_any ⟨n.op.toArray⟩ 0 ⟨n.text.toArray⟩ n.ty.kind A n.ty.args.length c K n.kids.length kc _).mono ?_
           rintro e w9 ⟨rfl, hb9⟩
           have HW9 := Lib.hid (HWx.out.below hb9)
           have HF9 := Lib.hid (HFx.out.trans (Knd.BFr.of_below hb9 (Nat.le_of_lt HWx.out.lt)))
           clear hb9
           go_wp2_with (fail)
           go_ret
           rw [HR3.out, bareN_eq]
           exact tw_bare HW9.out HF9.out
     | false =>
       have hh := fun (W : World) => has_any p (least : Int) 116 W
       simp only [show (((116 : UInt8).toNat : Nat) : Int) = 116 from by decide] at hh
       have HH := Lib.hid hh
       clear hh
       go_wp2_with (fail)
       refine (HH.out _).mono ?_
       clear HH
       rintro e w7 ⟨rfl, hb7⟩
       have HW7 := Lib.hid (HW6.out.below hb7)
       have HF7 : Hid (BFr b w w7) := HF6.out.trans (Knd.BFr.of_below hb7 (Nat.le_of_lt HW6.out.lt))
       have HN7 := Lib.hid ((hb7.block NB (zC HN6.out)).trans HN6.out)
       have HV7 := Lib.hid ((hb7.block VB (zC HV6.out)).trans HV6.out)
       clear hb7
       clear d0 d1 d2 d3 d4 d5 dl f0 f1 f2 f3 f4 f5
       clear v0 v1 vl
       have d0 := zN HN7.out
       have d1 := zR HN7.out
       have d2 := zQ HN7.out
       have d3 := zP HN7.out
       have d4 := zO HN7.out
       have d5 := zL HN7.out
       have f0 := zB HN7.out 0
       have f1 := zB HN7.out 1
       have f2 := zB HN7.out 2
       have f3 := zB HN7.out 3
       have f4 := zB HN7.out 4
       have f5 := zB HN7.out 5
       have dl := zC HN7.out
       have v0 := zG HV7.out
       have v1 := zF HV7.out
       have vl := zC HV7.out
       cases h116 : hasB p 116 with
       | true =>
         have HR2 : Hid (wordW (zJ r) n (bs, k) = if (Knd.zH 6 n.ty).isSome then (if bareN n.int n.text ty0 n.kids then some (bs ++ n.op ++ ([40] ++ Knd.textT 6 n.ty ++ [41]), k) else none) else none) := by
          show _ = _
          rw [HR.out, wordP, if_neg (by rw [h101]; decide), if_neg (by rw [h100]; decide), if_pos h116]
         clear HR h101 h100 h116
         have HTY7 : Hid (TyAt w7 S dt (.agg #[.int .i64 n.ty.kind, .slice A n.ty.args.length c]) n.ty) := TyAt.move (fun x hx _ => ⟨hx, fun _ => World.cell?_of_block (HF7.out.below.block x (HS.out x hx))⟩) dt _ _ HTY.out
         have HSH := Lib.hid (Knd.show_any dt S _ n.ty w7 HTY7.out (HG.out.below HF7.out.below h2).kd)
         go_wp2_with (fail)
         refine HSH.out.mono ?_
         clear HSH HTY7
         rintro e wa ⟨hout, hba⟩
         have HWa := Lib.hid (HW7.out.below hba)
         have HFa : Hid (BFr b w wa) := HF7.out.trans (Knd.BFr.of_below hba (Nat.le_of_lt HW7.out.lt))
         have HNa := Lib.hid ((hba.block NB (zC HN7.out)).trans HN7.out)
         clear hba d0 d1 d2 d3 d4 d5 dl f0 f1 f2 f3 f4 f5 v0 v1 vl
         have d0 := zN HNa.out
         have d1 := zR HNa.out
         have d2 := zQ HNa.out
         have d3 := zP HNa.out
         have d4 := zO HNa.out
         have d5 := zL HNa.out
         have f0 := zB HNa.out 0
         have f1 := zB HNa.out 1
         have f2 := zB HNa.out 2
         have f3 := zB HNa.out 3
         have f4 := zB HNa.out 4
         have f5 := zB HNa.out 5
         have dl := zC HNa.out
         revert hout HR2
         cases hm : Knd.zH 6 n.ty with
         | none =>
           intro HR2 hout
           obtain rfl : e = .returned (.tuple #[.string ⟨#[]⟩, .int .i64 20]) := hout
           have HR3 : Hid (wordW (zJ r) n (bs, k) = none) := HR2
           clear hm HR2
           go_wp2_with (fail)
           go_ret
           rw [HR3.out]
           exact ⟨rfl, HFa.out⟩
         | some q =>
           intro HR2 hout
           obtain rfl : e = .returned (.tuple #[.string ⟨(Knd.textT 6 n.ty).toArray⟩, .int .i64 0]) := hout
           have htl := Knd.textT_small 6 n.ty q hm
           have HR3 : Hid (wordW (zJ r) n (bs, k) = if bareN n.int n.text ty0 n.kids = true then some (bs ++ n.op ++ ([40] ++ Knd.textT 6 n.ty ++ [41]), k) else none) := HR2
           clear hm HR2
           go_wp2_with (fail)
           refine (bracket_any b _ (k : Int) ⟨(Knd.textT 6 n.ty).toArray⟩ wa HWa.out (by simp [ByteArray.size]; omega)).mono ?_
           rintro e w8 ⟨⟨v8, rfl⟩, hw8, hf8⟩
           have HW8 : Hid (Wr w8 b (bs ++ n.op ++ ([40] ++ Knd.textT 6 n.ty ++ [41])) (k : Int)) := by
            show Wr _ _ _ _
            have := hw8
            simpa [bl, List.append_assoc] using this
           have HF8 := Lib.hid (HFa.out.trans hf8)
           have HN8 := Lib.hid (hf8.cells HNa.out hNb (by decide))
           clear hw8 hf8 d0 d1 d2 d3 d4 d5 dl f0 f1 f2 f3 f4 f5
           have d0 := zN HN8.out
           have d1 := zR HN8.out
           have d2 := zQ HN8.out
           have d3 := zP HN8.out
           have d4 := zO HN8.out
           have d5 := zL HN8.out
           have f0 := zB HN8.out 0
           have f1 := zB HN8.out 1
           have f2 := zB HN8.out 2
           have f3 := zB HN8.out 3
           have f4 := zB HN8.out 4
           have f5 := zB HN8.out 5
           have dl := zC HN8.out
           have HWx := Lib.hid (wr_far2 HW8.out HN8.out hNb 3 4 (.int .i64 0) (.slice none 0 0))
           have HFx := Lib.hid (bfr_own (NB := NB) (bfr_own (NB := NB) HF8.out (by have := HNB.out; omega) (by have := HNB.out; omega) 3 (.int .i64 0)) (by have := HNB.out; omega) (by have := HNB.out; omega) 4 (.slice none 0 0))
           go_wp2_with (fail)
           refine (isBare_any ⟨n.op.toArray⟩ n.int ⟨n.text.toArray⟩ 0 none 0 0 K n.kids.length kc _).mono ?_
           rintro e w9 ⟨rfl, hb9⟩
           have HW9 := Lib.hid (HWx.out.below hb9)
           have HF9 := Lib.hid (HFx.out.trans (Knd.BFr.of_below hb9 (Nat.le_of_lt HWx.out.lt)))
           clear hb9
           go_wp2_with (fail)
           go_ret
           rw [HR3.out, bareN_eq]
           exact tw_bare HW9.out HF9.out
       | false =>
         have HR3 : Hid (wordW (zJ r) n (bs, k) = if bareN n.int n.text n.ty n.kids = true then some (bs ++ n.op, k) else none) := by
          show _ = _
          rw [HR.out, wordP, if_neg (by rw [h101]; decide), if_neg (by rw [h100]; decide), if_neg (by rw [h116]; decide)]
         clear HR h101 h100 h116
         go_wp2_with (fail)
         refine (isBare_any ⟨n.op.toArray⟩ n.int ⟨n.text.toArray⟩ n.ty.kind A n.ty.args.length c K n.kids.length kc _).mono ?_
         rintro e w9 ⟨rfl, hb9⟩
         have HW9 := Lib.hid (HW7.out.below hb9)
         have HF9 := Lib.hid (HF7.out.trans (Knd.BFr.of_below hb9 (Nat.le_of_lt HW7.out.lt)))
         clear hb9
         go_wp2_with (fail)
         go_ret
         rw [HR3.out, bareN_eq]
         exact tw_bare HW9.out HF9.out
end Go.Proofs.YtaecndmncpfpfaaGreatDoor
namespace Go.Proofs.YtaecndmncpfpfaaGreatDoor
open Go.ChangeShapes Go.WideShapes Go.ChangeAt Go.RowKit
theorem own : ownKnob Tryz.prog.godebug = none := by kernel_rfl
theorem gWords : Tryz.prog.globalNamed "watershed/kind.words" = some 0 := by kernel_rfl
theorem tWords : (Tryz.prog.globals[0]?).map (·.type) = some 205 := by kernel_rfl
theorem cells3 : Tryz.prog.cellsOf 3 = 1 := by kernel_rfl
theorem cells9 : Tryz.prog.cellsOf 9 = 1 := by kernel_rfl
theorem cells141 : Tryz.prog.cellsOf 205 = 24 := by kernel_rfl
theorem list_three {α : Type} {l : List α} (h : l.length = 3) : ∃ a b c, l = [a, b, c] := by
 match l, h with
 | [a, b, c], _ => exact ⟨a, b, c, rfl⟩
theorem word_cells {H : Type} {enc : TypeId × Value → H} {w : World} {base m : Nat} {sp : Nat → Bool} {held : Bool} {cs : List Value} {y : DataW H × List MemPlace} {k a : Int} {s : List UInt8} (h : DataW.trod enc Tryz.prog w base sp held m 149 cs = some y)
    (hy : y.1 = .agg [.lit (.int .i64 k), .lit (.int .i64 a), .lit (.string s)]) : cs = [.int .i64 k, .int .i64 a, .string ⟨s.toArray⟩] := by
 obtain ⟨xs, n, _, hx, hl, hxl, hf⟩ := DataW.trod_struct Tryz.underlying149 h
 rw [Knd.cells82] at hl
 obtain ⟨c0, c1, c2, rfl⟩ := list_three hl
 obtain ⟨x0, x1, x2, rfl⟩ := list_three hxl
 · · 
     subst hx
     simp only [List.map_cons, List.map_nil, DataW.agg.injEq, List.cons.injEq, and_true] at hy
     have f0 : DataW.trod enc Tryz.prog w base sp held n 3 (([c0, c1, c2].drop 0).take (Tryz.prog.cellsOf 3)) = some x0 := hf 0 _ rfl
     have f1 : DataW.trod enc Tryz.prog w base sp held n 3 (([c0, c1, c2].drop 1).take (Tryz.prog.cellsOf 3)) = some x1 := hf 1 _ rfl
     have f2 : DataW.trod enc Tryz.prog w base sp held n 9 (([c0, c1, c2].drop 2).take (Tryz.prog.cellsOf 9)) = some x2 := hf 2 _ rfl
     rw [cells3] at f0 f1
     rw [cells9] at f2
     obtain ⟨n0, e0, g0, _⟩ := DataW.trod_int Tryz.underlying3 (show DataW.trod enc Tryz.prog w base sp held n 3 [c0] = some x0 from f0)
     obtain ⟨n1, e1, g1, _⟩ := DataW.trod_int Tryz.underlying3 (show DataW.trod enc Tryz.prog w base sp held n 3 [c1] = some x1 from f1)
     obtain ⟨n2, e2, g2, _⟩ := DataW.trod_string Tryz.underlying9 (show DataW.trod enc Tryz.prog w base sp held n 9 [c2] = some x2 from f2)
     subst g0; subst g1; subst g2
     obtain ⟨h0, h1, h2⟩ := hy
     simp only [DataW.lit.injEq, Lit.int.injEq, Lit.string.injEq, true_and] at h0 h1 h2
     simp only [List.cons.injEq, and_true] at e0 e1 e2
     subst h0; subst h1; subst h2
     rw [e0, e1, e2]
def pieces : Nat → List Value → List (List Value)
 | 0, _ => []
 | n + 1, l => l.take 3 :: pieces n (l.drop 3)
theorem pieces_all : ∀ (n : Nat) (l : List Value), l.length = 3 * n → (pieces n l).flatten = l
 | 0, l, h => by
   have : l = [] := List.eq_nil_of_length_eq_zero (by omega)
   simp [pieces, this]
 | n + 1, l, h => by
   rw [pieces, List.flatten_cons, pieces_all n (l.drop 3) (by rw [List.length_drop]; omega), List.take_append_drop]
theorem tPow : (Tryz.prog.globals[2]?).map (·.type) = some 261 := by kernel_rfl
theorem cells79 : Tryz.prog.cellsOf 197 = 1 := by kernel_rfl
theorem cells137 : Tryz.prog.cellsOf 261 = 20 := by kernel_rfl
theorem data_pow {H : Type} : (Rows.laid_internal_strconv_uint64pow10 : DataW H) = Lib.tabData .u64 Lib.pow10Tab := by rfl
theorem gl_of_laid {W : World} (h : laidMet Tryz.prog [("math/bits.deBruijn32tab", Rows.laid_math_bits_deBruijn32tab), ("math/bits.deBruijn64tab", Rows.laid_math_bits_deBruijn64tab), ("internal/strconv.uint64pow10", Rows.laid_internal_strconv_uint64pow10), ("watershed/kind.words", Rows.laid_watershed_kind_words)] W) : Gl W := by
 obtain ⟨ps, ⟨_, _, _, _, _, _, _, _, _, _, ⟨_, _, _, _, _, _, _, _, _, _, ⟨g1, t1, cs1, f1, p1, q1, hg1, ht1, hv1, hd1, ⟨g0, t0, cs0, f0, p0, q0, hg0, ht0, hv0, hd0, _⟩, _⟩, _⟩, _⟩, _⟩ := h
 refine ⟨?_, ?_⟩
 rotate_left
 · obtain rfl := Option.some.inj (gPow.symm.trans hg1)
   obtain rfl := Option.some.inj (tPow.symm.trans ht1)
   unfold Tb Lib.TabIs
   rw [data_pow] at hd1
   rw [hv1, ← Lib.cells_of_tab Tryz.underlying261 Tryz.underlying197 cells79 cells137 hd1]
 obtain rfl := Option.some.inj (gWords.symm.trans hg0)
 obtain rfl := Option.some.inj (tWords.symm.trans ht0)
 obtain ⟨xs, m, _, hx, hl, hxl, hel⟩ := DataW.trod_array Tryz.underlying205 hd0
 simp only [Prod.mk.injEq] at hx
 have hx1 := hx.1
 rw [cells141] at hl
 simp only [Knd.cells82] at hel
 match xs, hxl with
 | [x1, x2, x3, x4, x5, x6, x7, x9], _ =>
   simp only [Rows.laid_watershed_kind_words, DataW.agg.injEq, List.map_cons, List.map_nil, List.cons.injEq, and_true] at hx1
   obtain ⟨h1, h2, h3, h4, h5, h6, h7, h9⟩ := hx1
   have e1 := word_cells (show _ = some x1 from hel 0 (by decide)) h1.symm
   have e2 := word_cells (show _ = some x2 from hel 1 (by decide)) h2.symm
   have e3 := word_cells (show _ = some x3 from hel 2 (by decide)) h3.symm
   have e4 := word_cells (show _ = some x4 from hel 3 (by decide)) h4.symm
   have e5 := word_cells (show _ = some x5 from hel 4 (by decide)) h5.symm
   have e6 := word_cells (show _ = some x6 from hel 5 (by decide)) h6.symm
   have e7 := word_cells (show _ = some x7 from hel 6 (by decide)) h7.symm
   have e9 := word_cells (show _ = some x9 from hel 7 (by decide)) h9.symm
   have hp := pieces_all 8 cs0.toList hl
   simp only [pieces, List.drop_drop] at hp
   simp only [Nat.reduceMul, List.drop_zero] at e1 e2 e3 e4 e5 e6 e7 e9
   simp only [Nat.reduceAdd] at hp
   rw [e1, e2, e3, e4, e5, e6, e7, e9] at hp
   have hcs : cs0 = Knd.wordsRow := by
    apply Array.toList_inj.1
    rw [← hp]
    rfl
   simp only [World.var?, gWords, Option.bind_some] at hv0
   split at hv0
   · rename_i c t fr hb
     cases hv0
     exact ⟨t, fr, by rw [hb, hcs]⟩
   · cases hv0
theorem door_met (os : Os) (args : Array Value) : laidMetH Tryz.prog [("math/bits.deBruijn32tab", Rows.laid_math_bits_deBruijn32tab), ("math/bits.deBruijn64tab", Rows.laid_math_bits_deBruijn64tab), ("internal/strconv.uint64pow10", Rows.laid_internal_strconv_uint64pow10), ("watershed/kind.words", Rows.laid_watershed_kind_words)] ((World.doorLaid Tryz.prog 400 os).forCall (fun _ _ => 0) ⟨#[], args, []⟩).memory := by
 rw [MakeChecks.laidMetH_plain _ _ _ (by kernel_rfl)]
 exact laidMet_of_run' 8 (by kernel_rfl) (by kernel_rfl)
theorem gl_of_laidH {W : World} (h : laidMetH Tryz.prog [("math/bits.deBruijn32tab", Rows.laid_math_bits_deBruijn32tab), ("math/bits.deBruijn64tab", Rows.laid_math_bits_deBruijn64tab), ("internal/strconv.uint64pow10", Rows.laid_internal_strconv_uint64pow10), ("watershed/kind.words", Rows.laid_watershed_kind_words)] W) : Gl W := by
 rw [MakeChecks.laidMetH_plain _ _ _ (by kernel_rfl)] at h
 exact gl_of_laid h
