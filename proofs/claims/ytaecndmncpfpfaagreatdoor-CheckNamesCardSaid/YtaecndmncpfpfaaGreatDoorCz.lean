import Derived.Test.YtaecndmncpfpfaaGreatDoorRc1
import Derived.Test.YtaecndmncpfpfaaGreatDoorShelf
import Derived.Laws.CopyRow
import Derived.Laws.CopyOwn
import Derived.Deep.RegionLaw
import Derived.Laws.Bits64
import Derived.Test.YtaecndmncpfpfaaGreatDoorCy
import Derived.Deep.DeepCutAuto
set_option linter.unusedVariables false
set_option linter.unusedSimpArgs false
namespace Go.Proofs.YtaecndmncpfpfaaGreatDoor
open Go.RowKit
section
variable {P : Program} (w : World)
theorem run_copy_rowN (dT sT ty elem : TypeId) (size g o dLen dCap : Nat) (a : Addr) (sLen sCap : Nat) (cur : Array Value) (t : TypeId) (cs : List Value)
    (hu : P.underlying dT = some (.slice elem)) (hs : (P.info? elem).map (·.size) = some size)
    (hg : w.heap[g]? = some (.cells cur t (0, 0))) (hn : cs.length = Nat.min sLen dLen * size)
    (hsrc : ∀ j v, cs[j]? = some v → w.cell? (a.add j) = some v) (hfit : o + cs.length ≤ cur.size) (h1 : ∀ v ∈ cs, v.oneCell' = true) :
    (Builtin.copy_ #[dT, sT] ty #[.slice (some ⟨g, o, none⟩) dLen dCap, .slice (some a) sLen sCap]).run P w =
      .ok (goInt (Nat.min sLen dLen)) (w.setRow g (cur.toList.take o ++ cs ++ cur.toList.drop (o + cs.length)).toArray) := by
 have hl := run_loadCells_list (P := P) w a cs hsrc
 have hst := run_storeCells_at P g o t cs 0 cur w hg (by simpa using hfit) h1
 cases hq : P.info? elem with
 | none => simp [hq] at hs
 | some i =>
   have hi : i.size = size := by simpa [hq] using hs
   simp [Builtin.copy_, run_underlying hu, Builtin.lenOf, Builtin.firstCells, sizeOf, typeInfo, hq, hi, ← hn, hl, hst]
end
theorem run_copy_ex {P : Program} (w : World) (dT sT ty elem : TypeId) (size g o dLen dCap : Nat) (a : Addr) (sLen sCap : Nat) (cur : Array Value) (t : TypeId) (cs : List Value)
    (hu : P.underlying dT = some (.slice elem)) (hs : (P.info? elem).map (·.size) = some size)
    (hg : w.heap[g]? = some (.cells cur t (0, 0))) (hn : cs.length = Nat.min sLen dLen * size)
    (hsrc : ∀ j v, cs[j]? = some v → w.cell? (a.add j) = some v) (hfit : o + cs.length ≤ cur.size) (h1 : ∀ v ∈ cs, v.oneCell' = true) (q : Nat) (hq : q = Nat.min sLen dLen) :
    ∃ w', (Builtin.copy_ #[dT, sT] ty #[.slice (some ⟨g, o, none⟩) dLen dCap, .slice (some a) sLen sCap]).run P w = .ok (.int .i64 (q : Int)) w' ∧
     w'.heap[g]? = some (.cells (cur.toList.take o ++ cs ++ cur.toList.drop (o + cs.length)).toArray t (0, 0)) ∧ (∀ k, k ≠ g → w'.heap[k]? = w.heap[k]?) ∧ w'.heap.size = w.heap.size ∧ w'.os = w.os ∧ w'.tape = w.tape ∧ w'.output = w.output := by
 subst hq
 refine ⟨_, run_copy_rowN (P := P) w dT sT ty elem size g o dLen dCap a sLen sCap cur t cs hu hs hg hn hsrc hfit h1, ?_, fun k hk => setRow_other w g k _ hk, by simp [World.setRow], rfl, rfl, rfl⟩
 exact setRow_heap w g cur _ t _ hg
def cA : List Value := [.int .i64 (-1), .slice none 0 0]
def cZ : List Value := [.int .i64 0, .slice none 0 0]
def rowA (j m : Nat) : List Value := (List.replicate j cA).flatten ++ (List.replicate (m - j) cZ).flatten
theorem flat_rep (k : Nat) (c : List Value) (h : c.length = 2) : (List.replicate k c).flatten.length = k * 2 := by simp [h]
theorem rowA_length {j m : Nat} (h : j ≤ m) : (rowA j m).length = m * 2 := by
 unfold rowA
 rw [List.length_append, flat_rep _ _ rfl, flat_rep _ _ rfl]; omega
theorem rowA_step {j m q : Nat} (h : j + q ≤ m) : (rowA j m).take (j * 2) ++ (List.replicate q cA).flatten ++ (rowA j m).drop (j * 2 + (List.replicate q cA).flatten.length) = rowA (j + q) m := by
 have e1 : (List.replicate (m - j) cZ).flatten = (List.replicate q cZ).flatten ++ (List.replicate (m - (j + q)) cZ).flatten := by
  rw [← List.flatten_append, List.replicate_append_replicate, show q + (m - (j + q)) = m - j by omega]
 unfold rowA
 rw [List.take_left' (flat_rep _ _ rfl), flat_rep q _ rfl, e1, ← List.append_assoc, List.drop_left' (by rw [List.length_append, flat_rep _ _ rfl, flat_rep _ _ rfl]), ← List.flatten_append, List.replicate_append_replicate]
theorem rowA_src {j q m : Nat} (hq : q ≤ j) (hj : j ≤ m) (i : Nat) (u : Value) (h : (List.replicate q cA).flatten[i]? = some u) : (rowA j m)[i]? = some u := by
 have e1 : (List.replicate j cA).flatten = (List.replicate q cA).flatten ++ (List.replicate (j - q) cA).flatten := by
  rw [← List.flatten_append, List.replicate_append_replicate, show q + (j - q) = j by omega]
 unfold rowA
 rw [e1, List.append_assoc, List.getElem?_append_left (List.getElem?_eq_some_iff.1 h).1]
 exact h
theorem rep_one (q : Nat) : ∀ u ∈ (List.replicate q cA).flatten, u.oneCell' = true := by
 intro u hu
 simp only [List.mem_flatten, List.mem_replicate] at hu
 obtain ⟨l, ⟨_, rfl⟩, hu⟩ := hu
 simp [cA] at hu
 rcases hu with rfl | rfl <;> rfl
theorem Tryz.infoTy : (Tryz.prog.info? 34).map (fun i => (i.zero, i.size, i.bytes)) = some (some (.agg #[.int .i64 0, .slice none 0 0]), 2, 32) := by kernel_rfl
theorem Tryz.sizeTy : (Tryz.prog.info? 34).map (·.size) = some 2 := by kernel_rfl
theorem rep_get (c : List Value) (h : c.length = 2) : ∀ (m i : Nat), i < m * 2 → (List.replicate m c).flatten[i]? = c[i % 2]?
 | 0, i, hi => by omega
 | m + 1, i, hi => by
   rw [List.replicate_succ, List.flatten_cons]
   rcases Nat.lt_or_ge i 2 with h2 | h2
   · rw [List.getElem?_append_left (by omega), Nat.mod_eq_of_lt h2]
   · rw [List.getElem?_append_right (by omega), h, rep_get c h m (i - 2) (by omega)]
     congr 1
     omega
theorem made_row (m : Nat) : madeCells #[.int .i64 0, .slice none 0 0] (m * 2) = (rowA 0 m).toArray := by
 apply Array.ext'
 apply List.ext_getElem?
 intro i
 have hr : rowA 0 m = (List.replicate m cZ).flatten := by simp [rowA]
 rw [List.toList_toArray, hr]
 rcases Nat.lt_or_ge i (m * 2) with h | h
 · rw [rep_get cZ rfl m i h]
   have hi : i < (madeCells #[.int .i64 0, .slice none 0 0] (m * 2)).size := by rw [size_madeCells]; exact h
   rw [Array.getElem?_toList, Array.getElem?_eq_getElem hi]
   rcases Nat.mod_two_eq_zero_or_one i with e | e <;> simp [madeCells, e, cZ]
 · rw [List.getElem?_eq_none (by rw [Array.length_toList, size_madeCells]; exact h), List.getElem?_eq_none (by rw [flat_rep _ _ rfl]; exact h)]
set_option maxRecDepth 100000 in
set_option maxHeartbeats 4000000 in
theorem repeat_any (m b o c : Nat) (hm : m ≤ 64) (w : World) (h0 : w.cell? ⟨b, o, none⟩ = some (.int .i64 (-1))) (h1 : w.cell? ⟨b, o + 1, none⟩ = some (.slice none 0 0)) :
    Calls Tryz.prog 137 #[.slice (some ⟨b, o, none⟩) 1 c, .int .i64 (m : Int)] w fun e w' => ∃ g, e = .returned (.slice (some ⟨g, 0, none⟩) m m) ∧ w.heap.size ≤ g ∧ w'.heap[g]? = some (.cells (rowA m m).toArray 34 (0, 0)) ∧ Below w.heap.size w w' := by
 have hd0 : decide ((m : Int) < 0) = false := decide_eq_false (by omega)
 have hwm : IntKind.u64.wrap (m : Int) = (m : Int) := by rw [IntKind.wrap_u64]; omega
 have hwi : IntKind.i64.wrap (m : Int) = (m : Int) := IntWalk.i64_in _ (by omega)
 have hd1 : decide ((9223372036854775807 : Int) < (m : Int)) = false := decide_eq_false (by omega)
 obtain ⟨i0, hi, hq0, hq1, hq2⟩ := info_parts Tryz.infoTy
 have hmk := fun (W : World) => run_make (P := Tryz.prog) W 168 34 i0 _ Tryz.underlying168 hi hq0 .i64 .i64 (m : Int) (m : Int) (by omega) (by omega) (by rw [hq2]; omega) (by omega)
 have hmr : madeCells (Value.agg #[.int .i64 0, .slice none 0 0]).cells ((m : Int).toNat * i0.size) = (rowA 0 m).toArray := by rw [hq1]; exact made_row m
 simp only [hmr, Int.toNat_natCast] at hmk
 clear hmr
 have hmod : 1 * m % 18446744073709551616 = m := by omega
 have hdiv : 1 * m / 18446744073709551616 = 0 := by omega
 have HM := Lib.hid (Tryz.bits_Mul 1 m (by omega) (by omega) w)
 rw [hmod, hdiv] at HM
 go_enter Tryz.func137, Tryz.ntmps137
 go_upto_region 7 with (go_at_call 141; (refine HM.out.mono ?_); rintro e wa ⟨rfl, rfl⟩)
 rw [made_row m]
 obtain ⟨q0, hq0'⟩ : ∃ q0, q0 = Nat.min 1 m := ⟨_, rfl⟩
 have HQ0 := Lib.hid hq0'
 have hq01 : q0 ≤ 1 ∧ q0 ≤ m ∧ (0 < m → 0 < q0) := by rw [hq0']; show min 1 m ≤ 1 ∧ min 1 m ≤ m ∧ (0 < m → 0 < min 1 m); omega
 clear hq0'
 have HS0 : Hid (∀ j u, (List.replicate q0 cA).flatten[j]? = some u → (wa.alloc (.cells (rowA 0 m).toArray 34)).cell? ((⟨b, o, none⟩ : Addr).add j) = some u) := Lib.hid (fun j u hj => by
  have hlt := (List.getElem?_eq_some_iff.1 hj).1
  rw [flat_rep _ _ rfl] at hlt
  obtain rfl : q0 = 1 := by omega
  have had : ∀ k, (⟨b, o, none⟩ : Addr).add k = ⟨b, o + k, none⟩ := fun k => by
   unfold Addr.add
   split
   · rename_i h; subst h; rfl
   · rfl
  rw [had]
  have hnw : ∀ k v, wa.cell? ⟨b, k, none⟩ = some v → (wa.alloc (.cells (rowA 0 m).toArray 34)).cell? ⟨b, k, none⟩ = some v := fun k v hv => (World.cell?_of_block (Below.heap_alloc wa _ b (World.block_lt_of_cell? wa _ hv))).trans hv
  rcases (by omega : j = 0 ∨ j = 1) with rfl | rfl
  · obtain rfl : Value.int .i64 (-1) = u := Option.some.inj hj
    exact hnw _ _ h0
  · obtain rfl : Value.slice none 0 0 = u := Option.some.inj hj
    exact hnw _ _ h1)
 obtain ⟨w2, hcp, hg2, hk2, hs2, ho2⟩ := run_copy_ex (P := Tryz.prog) (wa.alloc (.cells (rowA 0 m).toArray 34)) 168 168 3 34 2 wa.heap.size 0 m m ⟨b, o, none⟩ 1 c (rowA 0 m).toArray 34 (List.replicate q0 cA).flatten Tryz.underlying168 Tryz.sizeTy (heap_alloc_new wa _) (by rw [flat_rep _ _ rfl, HQ0.out]) HS0.out (by rw [flat_rep _ _ rfl, List.size_toArray, rowA_length (Nat.zero_le _)]; omega) (rep_one _) q0 HQ0.out
 have hr2 : (rowA 0 m).take 0 ++ (List.replicate q0 cA).flatten ++ (rowA 0 m).drop (0 + (List.replicate q0 cA).flatten.length) = rowA q0 m := by
  have := rowA_step (j := 0) (m := m) (q := q0) (by omega)
  simpa using this
 have HG2 : Hid (w2.heap[wa.heap.size]? = some (.cells (rowA q0 m).toArray 34 (0, 0))) := Lib.hid (by rw [hg2]; simp only [List.toList_toArray]; rw [hr2])
 have HB2 : Hid (Below wa.heap.size wa w2) := Lib.hid ⟨ho2.1, ho2.2.1, ho2.2.2, by rw [hs2]; simp, fun k hk => (hk2 k (by omega)).trans (Below.heap_alloc wa _ k hk)⟩
 clear hg2 hk2 hs2 ho2 hr2 HS0 HQ0
 go_wp2
 clear hcp hmk HM hwm hwi hd0 hd1 hmod hdiv hq0 hq1 hq2 hi
 go_loopw [8] (fun nv wr => ∃ j : Nat, nv = .int .i64 (j : Int) ∧ j ≤ m ∧ (0 < m → 0 < j) ∧ Hid (wr.heap[wa.heap.size]? = some (.cells (rowA j m).toArray 34 (0, 0))) ∧ Hid (Below wa.heap.size wa wr)) (fun nv _ => m - (intOf nv).toNat)
 case atStart => exact ⟨q0, rfl, hq01.2.1, hq01.2.2, HG2, HB2⟩
 case round =>
  obtain ⟨j, rfl, hj, hjp, HG, HB⟩ := hrel
  by_cases hlt : j < m
  · have hj1 := hjp (by omega)
    obtain ⟨q, hq⟩ : ∃ q, q = Nat.min j (m - j) := ⟨_, rfl⟩
    have HQ := Lib.hid hq
    have hq1 : 0 < q ∧ q ≤ j ∧ j + q ≤ m := by rw [hq]; show 0 < min j (m - j) ∧ min j (m - j) ≤ j ∧ j + min j (m - j) ≤ m; omega
    have hwq : IntKind.i64.wrap ((j : Int) + (q : Int)) = (j : Int) + (q : Int) := IntWalk.i64_in _ (by omega)
    clear hq
    have z0 : (0 : Int) ≤ (j : Int) := by omega
    have z1 : (j : Int) ≤ (m : Int) := by omega
    have z2 : ¬ m = j := by omega
    have z3 : j ≤ m := by omega
    have z4 : ¬ j = 0 := by omega
    have HS1 : Hid (∀ i u, (List.replicate q cA).flatten[i]? = some u → wr.cell? ((⟨wa.heap.size, 0, none⟩ : Addr).add i) = some u) := Lib.hid (fun i u hu => by
     have h1 := rowA_src (m := m) hq1.2.1 hj i u hu
     have had : (⟨wa.heap.size, 0, none⟩ : Addr).add i = ⟨wa.heap.size, i, none⟩ := by unfold Addr.add; split <;> simp_all
     rw [had]
     simp [World.cell?, HG.out, h1])
    obtain ⟨w3, hcp3, hg3, hk3, hs3, ho3⟩ := run_copy_ex (P := Tryz.prog) wr.drew 168 168 3 34 2 wa.heap.size (j * 2) (m - j) (m - j) ⟨wa.heap.size, 0, none⟩ j m (rowA j m).toArray 34 (List.replicate q cA).flatten Tryz.underlying168 Tryz.sizeTy HG.out (by rw [flat_rep _ _ rfl, HQ.out]) HS1.out (by rw [flat_rep _ _ rfl, List.size_toArray, rowA_length hj]; omega) (rep_one _) q HQ.out
    have HG3 : Hid (w3.heap[wa.heap.size]? = some (.cells (rowA (j + q) m).toArray 34 (0, 0))) := Lib.hid (by rw [hg3]; simp only [List.toList_toArray]; rw [rowA_step hq1.2.2])
    have HB3 : Hid (Below wa.heap.size wa w3) := Lib.hid (HB.out.trans ⟨ho3.1, ho3.2.1, ho3.2.2, Nat.le_of_eq hs3.symm, fun k hk => hk3 k (by omega)⟩)
    clear hg3 hk3 hs3 ho3 HS1 HQ
    go_upto_region 9 with (fail)
    go_region_held3 (fun _ => True) (trivial) (fail)
    go_wp2
    go_roundw
    case rel => exact ⟨j + q, by go_num, by omega, by omega, HG3, HB3⟩
    case measure => simp [intOf]; omega
  · obtain rfl : j = m := by omega
    go_wp2
    go_ret
    exact ⟨_, rfl, Nat.le_refl _, HG.out, HB.out⟩
end Go.Proofs.YtaecndmncpfpfaaGreatDoor
set_option linter.unusedVariables false
set_option linter.unusedSimpArgs false
namespace Go.Proofs.YtaecndmncpfpfaaGreatDoor
open Go.RowKit
structure HeadR (W0 wx : World) (s7 s8 s9 : Value) : Prop where
 base : Below W0.heap.size W0 wx
 pair : ∃ u, BxV W0.heap.size wx s7 6 u ∧ SlB W0.heap.size wx u 2 #[.int .i64 (-1), .slice none 0 0, .int .i64 (-2), .slice none 0 0]
 list : ∃ u, BxV W0.heap.size wx s8 7 u ∧ SlB W0.heap.size wx u 1 #[.int .i64 (-1), .slice none 0 0]
 option : ∃ u, BxV W0.heap.size wx s9 9 u ∧ SlB W0.heap.size wx u 1 #[.int .i64 (-1), .slice none 0 0]
theorem rep_no {n i : Nat} : (Array.replicate n false).getD i false = false := by
 rw [Array.getD_eq_getD_getElem?]
 cases h : (Array.replicate n false)[i]? with
 | none => rfl
 | some b =>
   have := Array.getElem?_eq_some_iff.1 h
   obtain ⟨h1, h2⟩ := this
   simp at h2
   rw [← h2]
   rfl
set_option maxRecDepth 100000 in
theorem headR_wp (hd : Value) (g0 g3 g4 g5 g6 id : Nat) (W0 : World) (Q : Exit → Act → World → Prop) (h5 : W0.heap[g5]? = some (.cells #[.int .i64 (-1), .slice none 0 0] 34 (0, 0))) (h6 : W0.heap[g6]? = some (.cells #[.int .i64 (-2), .slice none 0 0] 34 (0, 0)))
    (he : ∀ u7 u8 u9 u14 u15 u16 u17 u18 u19 u20 u21 u22 u23 W, HeadR W0 W u7 u8 u9 → Q .normal (FrR hd g0 g3 g4 g5 g6 u7 u8 u9 u14 u15 u16 u17 u18 u19 u20 u21 u22 u23) W) : (Code.region id opsR.toArray true).wp Tryz.prog Q (FrR hd g0 g3 g4 g5 g6 undef undef undef undef undef undef undef undef undef undef undef undef undef) W0 := by
 refine region_inv (InvR hd g0 g3 g4 g5 g6 W0) (by kernel_rfl) (by decide +kernel) ?_ (fun l a w ⟨_, _, _, _, _, _, _, _, _, _, _, _, _, _, F⟩ => F.sz) (inv_stepsR hd g0 g3 g4 g5 g6 W0 Q h5 h6) ?_
 · refine ⟨_, _, _, _, _, _, _, _, _, _, _, _, _, rfl, ?_⟩
   have no : ∀ {i : Nat} {p : Prop}, (Array.replicate opsR.length false).getD i false = true → p := fun h => by rw [rep_no] at h; cases h
   exact ⟨by simp [opsR], (Below.refl _ _).drew, fun h => no h, fun h => no h, fun h => no h, fun h => no h, fun h => no h, fun h => no h, fun h => no h, fun h => no h, fun h => no h, fun h => no h, fun h => no h, fun h => no h, fun h => no h, fun h _ => no h, fun h _ => no h, fun h _ => no h, fun h => no h, fun h => no h, fun h => no h, fun h => no h, fun h => no h, fun h => no h, fun h _ => no h, fun h _ => no h, fun h _ => no h⟩
 · rintro l a W ⟨u7, u8, u9, u14, u15, u16, u17, u18, u19, u20, u21, u22, u23, rfl, F⟩ hall
   have hl : ∀ i, i < 16 → l.getD i false = true := fun i hi => hall i (by simpa [opsR] using hi)
   exact he _ _ _ _ _ _ _ _ _ _ _ _ _ W ⟨F.base, ⟨_, F.v13 (hl 13 (by decide)), F.f2 (hl 2 (by decide))⟩, ⟨_, F.v14 (hl 14 (by decide)), F.f5 (hl 5 (by decide))⟩, ⟨_, F.v15 (hl 15 (by decide)), F.f8 (hl 8 (by decide))⟩⟩
theorem zE {w : World} {b : Nat} {o o' : Obj} (h : w.heap[b]? = some o') : (w.alloc o).heap[b]? = some o' := (Below.heap_alloc w o b (zC h)).trans h
def mA : Ty := .mk (-1) []
def mB : Ty := .mk (-2) []
def tT : Ty := .mk 1 []
def tN : Ty := .mk 2 []
def tP : Ty := .mk 6 [mA, mB]
def tL : Ty := .mk 7 [mA]
def tO : Ty := .mk 9 [mA]
def yM (op : List UInt8) (ty : Ty) (m : Nat) : List Ty :=
 if op = [110, 105, 108] then [.mk 7 [ty]] else
 if op = [110, 111, 110, 101] then [.mk 9 [ty]] else
 if op = [101, 113] then [mA, mA, tT] else
 if op = [108, 116] then [mA, mA, tT] else
 if op = [105, 102] then [tT, mA, mA, mA] else
 if op = [112, 97, 105, 114] then [mA, mB, tP] else
 if op = [102, 105, 114, 115, 116] then [tP, mA] else
 if op = [115, 101, 99, 111, 110, 100] then [tP, mB] else
 if op = [108, 105, 115, 116] then List.replicate m mA ++ [tL] else
 if op = [99, 111, 110, 115] then [mA, tL, tL] else
 if op = [99, 111, 110, 99, 97, 116] then [tL, tL, tL] else
 if op = [108, 101, 110] then [tL, tN] else
 if op = [97, 116] then [tL, tN, tO] else
 if op = [115, 111, 114, 116] then [tL, tL] else
 if op = [115, 111, 109, 101] then [mA, tO] else
 if op = [105, 115, 95, 115, 111, 109, 101] then [tO, tT] else
 [tO, mA, mA]
theorem zY (w : World) (S : Nat → Prop) (d : Nat) (k : Int) : TyAt w S (d + 1) (.agg #[.int .i64 k, .slice none 0 0]) (.mk k []) :=
 ⟨none, 0, rfl, Nat.le_refl _, fun h => absurd h (by simp [Ty.args])⟩
theorem ty_arg1 {w : World} {S : Nat → Prop} {d B : Nat} {k : Int} {T : TypeId} (hB : w.heap[B]? = some (.cells #[.int .i64 (-1), .slice none 0 0] T (0, 0))) (hS : S B) : TyAt w S (d + 2) (.agg #[.int .i64 k, .slice (some ⟨B, 0, none⟩) 1 1]) (.mk k [mA]) :=
 ⟨some ⟨B, 0, none⟩, 1, rfl, Nat.le_refl _, fun _ => ⟨B, 0, rfl, hS, fun j x hx => by
  cases j with
  | zero =>
    obtain rfl : mA = x := Option.some.inj hx
    exact ⟨_, _, zD (i := 0) hB rfl, zD (i := 1) hB rfl, zY _ _ _ _⟩
  | succ j => exact absurd hx (by simp [Ty.args])⟩⟩
theorem ty_arg2 {w : World} {S : Nat → Prop} {d B : Nat} {k : Int} {T : TypeId} (hB : w.heap[B]? = some (.cells #[.int .i64 (-1), .slice none 0 0, .int .i64 (-2), .slice none 0 0] T (0, 0))) (hS : S B) : TyAt w S (d + 2) (.agg #[.int .i64 k, .slice (some ⟨B, 0, none⟩) 2 2]) (.mk k [mA, mB]) :=
 ⟨some ⟨B, 0, none⟩, 2, rfl, Nat.le_refl _, fun _ => ⟨B, 0, rfl, hS, fun j x hx => by
  match j, hx with
  | 0, hx =>
    obtain rfl : mA = x := Option.some.inj hx
    exact ⟨_, _, zD (i := 0) hB rfl, zD (i := 1) hB rfl, zY _ _ _ _⟩
  | 1, hx =>
    obtain rfl : mB = x := Option.some.inj hx
    exact ⟨_, _, zD (i := 2) hB rfl, zD (i := 3) hB rfl, zY _ _ _ _⟩
  | j + 2, hx => exact absurd hx (by simp [Ty.args])⟩⟩
def FaOut (w w' : World) (S : Nat → Prop) (e : Ending) (f : List Ty) : Prop := ∃ FA fk D, e = .returned (.slice FA f.length fk) ∧ f.length ≤ fk ∧ Knd.yE w' (fun k => S k ∨ (w.heap.size ≤ k ∧ k < w'.heap.size)) D FA f
