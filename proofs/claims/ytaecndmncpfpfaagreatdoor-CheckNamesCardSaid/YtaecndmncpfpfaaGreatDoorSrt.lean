import Derived.Shelf.Sort.Plain
import Derived.Shelf.Slices.Turned
import Derived.Shelf.Slices.CompactS
import Derived.Shelf.SlGeneric
import Derived.Shelf.Spec.SlicesGrow
import Derived.Shelf.Slices.In.SortNone
import Derived.Test.YtaecndmncpfpfaaGreatDoorProg
import Derived.Test.YtaecndmncpfpfaaGreatDoorKb
import Derived.Laws.AppendOwnNone
import Derived.Lib.OwnBridge
import Derived.Sort.OwnSorted
import Derived.Sort.Grow
namespace Go.Proofs
open Go.Shelf Go.Sort
def Tryz.lays190_ren : Go.Shelf.Ren := ⟨fun | 190 => 43 | 125 => 78 | 258 => 77 | 128 => 121 | 129 => 122 | 302 => 112 | 303 => 113 | 304 => 114 | 305 => 115 | 306 => 116 | 307 => 117 | 308 => 118 | 309 => 119 | 310 => 120 | 333 => 145 | 329 => 146 | 330 => 147 | 334 => 148 | 335 => 149 | 336 => 150 | 344 => 170 | n => n, fun | 31 => 50 | 9 => 9 | 3 => 3 | 46 => 139 | 0 => 0 | 51 => 195 | 53 => 197 | 4 => 4 | 183 => 188 | 182 => 187 | 131 => 102 | 5 => 5 | 218 => 224 | 222 => 57 | 228 => 243 | 229 => 244 | n => n, fun | n => n⟩
theorem Tryz.lays190 : Go.Proofs.Lays.n190 Tryz.prog Tryz.lays190_ren := {
 mixed := by kernel_rfl
 f125 := Tryz.func78.trans (congrArg some (by kernel_rfl))
 f128 := Tryz.func121.trans (congrArg some (by kernel_rfl))
 f129 := Tryz.func122.trans (congrArg some (by kernel_rfl))
 f190 := Tryz.func43.trans (congrArg some (by kernel_rfl))
 f258 := Tryz.func77.trans (congrArg some (by kernel_rfl))
 f302 := Tryz.func112.trans (congrArg some (by kernel_rfl))
 f303 := Tryz.func113.trans (congrArg some (by kernel_rfl))
 f304 := Tryz.func114.trans (congrArg some (by kernel_rfl))
 f305 := Tryz.func115.trans (congrArg some (by kernel_rfl))
 f306 := Tryz.func116.trans (congrArg some (by kernel_rfl))
 f307 := Tryz.func117.trans (congrArg some (by kernel_rfl))
 f308 := Tryz.func118.trans (congrArg some (by kernel_rfl))
 f309 := Tryz.func119.trans (congrArg some (by kernel_rfl))
 f310 := Tryz.func120.trans (congrArg some (by kernel_rfl))
 f329 := Tryz.func146.trans (congrArg some (by kernel_rfl))
 f330 := Tryz.func147.trans (congrArg some (by kernel_rfl))
 f333 := Tryz.func145.trans (congrArg some (by kernel_rfl))
 f334 := Tryz.func148.trans (congrArg some (by kernel_rfl))
 f335 := Tryz.func149.trans (congrArg some (by kernel_rfl))
 f336 := Tryz.func150.trans (congrArg some (by kernel_rfl))
 f344 := Tryz.func170.trans (congrArg some (by kernel_rfl))
 t0 := Tryz.underlying0
 a0 := Tryz.isAgg0
 z0 := Tryz.sizeOf0
 v0 := Tryz.zeroValue0
 t3 := Tryz.underlying3
 a3 := Tryz.isAgg3
 z3 := Tryz.sizeOf3
 v3 := Tryz.zeroValue3
 t4 := Tryz.underlying4
 a4 := Tryz.isAgg4
 z4 := Tryz.sizeOf4
 v4 := Tryz.zeroValue4
 t5 := Tryz.underlying5
 a5 := Tryz.isAgg5
 z5 := Tryz.sizeOf5
 v5 := Tryz.zeroValue5
 t9 := Tryz.underlying9
 a9 := Tryz.isAgg9
 z9 := Tryz.sizeOf9
 v9 := Tryz.zeroValue9
 t31 := Tryz.underlying50
 a31 := Tryz.isAgg50
 z31 := Tryz.sizeOf50
 v31 := Tryz.zeroValue50
 t46 := Tryz.underlying139
 a46 := Tryz.isAgg139
 z46 := Tryz.sizeOf139
 v46 := Tryz.zeroValue139
 t51 := Tryz.underlying195
 a51 := Tryz.isAgg195
 z51 := Tryz.sizeOf195
 v51 := Tryz.zeroValue195
 t53 := Tryz.underlying197
 a53 := Tryz.isAgg197
 z53 := Tryz.sizeOf197
 v53 := Tryz.zeroValue197
 t131 := Tryz.underlying102
 a131 := Tryz.isAgg102
 z131 := Tryz.sizeOf102
 v131 := Tryz.zeroValue102
 t182 := Tryz.underlying187
 a182 := Tryz.isAgg187
 z182 := Tryz.sizeOf187
 v182 := Tryz.zeroValue187
 t183 := Tryz.underlying188
 a183 := Tryz.isAgg188
 z183 := Tryz.sizeOf188
 v183 := Tryz.zeroValue188
 t218 := Tryz.underlying224
 a218 := Tryz.isAgg224
 z218 := Tryz.sizeOf224
 v218 := Tryz.zeroValue224
 t222 := Tryz.underlying57
 a222 := Tryz.isAgg57
 z222 := Tryz.sizeOf57
 v222 := Tryz.zeroValue57
 t228 := Tryz.underlying243
 a228 := Tryz.isAgg243
 z228 := Tryz.sizeOf243
 v228 := Tryz.zeroValue243
 t229 := Tryz.underlying244
 a229 := Tryz.isAgg244
 z229 := Tryz.sizeOf244
 v229 := Tryz.zeroValue244 }
theorem Tryz.slices_Sort_string (blk off cap : Nat) (ss : List (List UInt8)) (w : World) (hH : Holds encStr w blk off ss.toArray) (hblk : blk < w.heap.size) (hsz : ss.length < 4611686018427387904) :
    Calls Tryz.prog 43 #[.slice (some ⟨blk, off, none⟩) ss.length cap] w fun e w' =>
     e = .returned (.tuple #[]) ∧ ∃ n os, w' = grow (putRow encStr (Sort.ahead w n) blk off (ss.mergeSort fun x y => decide (x ≤ y)).toArray) os := Any.slices_Sort_string Tryz.lays190 blk off cap ss w hH hblk hsz
def Tryz.lays110_ren : Go.Shelf.Ren := ⟨fun | 110 => 74 | 109 => 109 | n => n, fun | 31 => 50 | 9 => 9 | 4 => 4 | 3 => 3 | 0 => 0 | n => n, fun | n => n⟩
theorem Tryz.lays110 : Go.Proofs.Lays.n110 Tryz.prog Tryz.lays110_ren := {
 mixed := by kernel_rfl
 f109 := Tryz.func109.trans (congrArg some (by kernel_rfl))
 f110 := Tryz.func74.trans (congrArg some (by kernel_rfl))
 t0 := Tryz.underlying0
 a0 := Tryz.isAgg0
 z0 := Tryz.sizeOf0
 v0 := Tryz.zeroValue0
 t3 := Tryz.underlying3
 a3 := Tryz.isAgg3
 z3 := Tryz.sizeOf3
 v3 := Tryz.zeroValue3
 t4 := Tryz.underlying4
 a4 := Tryz.isAgg4
 z4 := Tryz.sizeOf4
 v4 := Tryz.zeroValue4
 t9 := Tryz.underlying9
 a9 := Tryz.isAgg9
 z9 := Tryz.sizeOf9
 v9 := Tryz.zeroValue9
 t31 := Tryz.underlying50
 a31 := Tryz.isAgg50
 z31 := Tryz.sizeOf50
 v31 := Tryz.zeroValue50 }
theorem Tryz.slices_Contains_string (b off n c : Nat) (zs : List ByteArray) (x : ByteArray) (w : World) (hz : n ≤ zs.length) (hbig : n ≤ 9223372036854775807) (hc : ∀ j, j < zs.length → w.cell? ⟨b, off + j, none⟩ = some (.string (zs.getD j ByteArray.empty))) :
    Calls Tryz.prog 74 #[.slice (some ⟨b, off, none⟩) n c, .string x] w fun e w' => e = .returned (.bool (Lib.containsS (zs.take n) x)) ∧ w' = w := Any.slices_Contains_string Tryz.lays110 b off n c zs x w hz hbig hc
theorem Tryz.slices_Contains_string_empty (a : Option Addr) (c : Nat) (x : ByteArray) (w : World) :
    Calls Tryz.prog 74 #[.slice a 0 c, .string x] w fun e w' => e = .returned (.bool false) ∧ w' = w := Any.slices_Contains_string_empty Tryz.lays110 a c x w
def Tryz.lays194_ren : Go.Shelf.Ren := ⟨fun | 194 => 44 | n => n, fun | 31 => 50 | 9 => 9 | 3 => 3 | 4 => 4 | 0 => 0 | n => n, fun | n => n⟩
theorem Tryz.lays194 : Go.Proofs.Lays.n194 Tryz.prog Tryz.lays194_ren := {
 mixed := by kernel_rfl
 f194 := Tryz.func44.trans (congrArg some (by kernel_rfl))
 t0 := Tryz.underlying0
 a0 := Tryz.isAgg0
 z0 := Tryz.sizeOf0
 v0 := Tryz.zeroValue0
 t3 := Tryz.underlying3
 a3 := Tryz.isAgg3
 z3 := Tryz.sizeOf3
 v3 := Tryz.zeroValue3
 t4 := Tryz.underlying4
 a4 := Tryz.isAgg4
 z4 := Tryz.sizeOf4
 v4 := Tryz.zeroValue4
 t9 := Tryz.underlying9
 a9 := Tryz.isAgg9
 z9 := Tryz.sizeOf9
 v9 := Tryz.zeroValue9
 t31 := Tryz.underlying50
 a31 := Tryz.isAgg50
 z31 := Tryz.sizeOf50
 v31 := Tryz.zeroValue50 }
theorem Tryz.slices_Compact_string (blk off cap : Nat) (zs : List (List UInt8)) (w : World) (hH : Holds encStr w blk off zs.toArray) (hsz : zs.length ≤ 9223372036854775807) (hcap : zs.length ≤ cap) :
    Calls Tryz.prog 44 #[.slice (some ⟨blk, off, none⟩) zs.length cap] w fun e w' => e = .returned (.slice (some ⟨blk, off, none⟩) (Lib.compact zs).length cap) ∧ ∃ q, w' = putRow encStr (Sort.ahead w q) blk off (Lib.compact zs ++ List.replicate (zs.length - (Lib.compact zs).length) []).toArray := Any.slices_Compact_string Tryz.lays194 blk off cap zs w hH hsz hcap
theorem Tryz.slices_Compact_string_empty (a : Option Addr) (cap : Nat) (w : World) :
    Calls Tryz.prog 44 #[.slice a 0 cap] w fun e w' => e = .returned (.slice a 0 cap) ∧ w' = w := Any.slices_Compact_string_empty Tryz.lays194 a cap w
theorem Tryz.slices_Sort_string_none (p : Option Addr) (cap : Nat) (w : World) :
    Calls Tryz.prog 43 #[.slice p 0 cap] w fun e w' => e = .returned (.tuple #[]) ∧ w' = w := Any.slices_Sort_string_none Tryz.lays190 p cap w
def Tryz.laysGrow_ren : Go.Shelf.Ren := ⟨fun | 4 => 111 | n => n, fun | 22 => 50 | 25 => 9 | 3 => 3 | 4 => 4 | 9 => 9 | 20 => 20 | 0 => 0 | n => n, fun | n => n⟩
theorem Tryz.laysGrow : Go.Proofs.Lays8.n4 Tryz.prog Tryz.laysGrow_ren := {
 mixed := by kernel_rfl
 f4 := ⟨Tryz.f111.name, by decide, Tryz.func111.trans (congrArg some (by kernel_rfl))⟩
 t0 := Tryz.underlying0
 a0 := Tryz.isAgg0
 z0 := Tryz.sizeOf0
 v0 := Tryz.zeroValue0
 t3 := Tryz.underlying3
 a3 := Tryz.isAgg3
 z3 := Tryz.sizeOf3
 v3 := Tryz.zeroValue3
 t4 := Tryz.underlying4
 a4 := Tryz.isAgg4
 z4 := Tryz.sizeOf4
 v4 := Tryz.zeroValue4
 t9 := Tryz.underlying9
 a9 := Tryz.isAgg9
 z9 := Tryz.sizeOf9
 v9 := Tryz.zeroValue9
 t20 := Tryz.underlying20
 a20 := Tryz.isAgg20
 z20 := Tryz.sizeOf20
 v20 := Tryz.zeroValue20
 t22 := Tryz.underlying50
 a22 := Tryz.isAgg50
 z22 := Tryz.sizeOf50
 v22 := Tryz.zeroValue50 }
end Go.Proofs
namespace Go.Proofs.YtaecndmncpfpfaaGreatDoor
open Go.RowKit Go.Shelf Go.Sort
def StrAt (w : World) (S : Nat → Prop) (v : Value) (l : List (List UInt8)) : Prop :=
 (v = .slice none 0 0 ∧ l = []) ∨ ∃ b o c, v = .slice (some ⟨b, o, none⟩) l.length c ∧ l.length ≤ c ∧ S b ∧ ∀ (j : Nat) (x : List UInt8), l[j]? = some x → w.cell? ⟨b, o + j, none⟩ = some (encStr x)
theorem StrAt.nil (w : World) (S : Nat → Prop) : StrAt w S (.slice none 0 0) [] := .inl ⟨rfl, rfl⟩
theorem StrAt.move {w w' : World} {S S' : Nat → Prop} {v : Value} {l : List (List UInt8)} (h : StrAt w S v l) (hk : ∀ b, S b → S' b ∧ (b < w.heap.size → ∀ o, w'.cell? ⟨b, o, none⟩ = w.cell? ⟨b, o, none⟩)) : StrAt w' S' v l := by
 rcases h with h | ⟨b, o, c, rfl, hc, hS, hj⟩
 · exact .inl h
 · obtain ⟨hS', hcell⟩ := hk b hS
   exact .inr ⟨b, o, c, rfl, hc, hS', fun j x hx => (hcell (World.block_lt_of_cell? w _ (hj j x hx)) _).trans (hj j x hx)⟩
theorem StrAt.below {w w' : World} {S : Nat → Prop} {v : Value} {l : List (List UInt8)} (h : StrAt w S v l) (hb : Below w.heap.size w w') : StrAt w' S v l :=
 h.move fun b hS => ⟨hS, fun hl o => hb.cell (p := ⟨b, o, none⟩) hl⟩
theorem StrAt.wider {w : World} {S S' : Nat → Prop} {v : Value} {l : List (List UInt8)} (h : StrAt w S v l) (hS : ∀ b, S b → S' b) : StrAt w S' v l :=
 h.move fun b hb => ⟨hS b hb, fun _ _ => rfl⟩
theorem StrAt.form {w : World} {S : Nat → Prop} {v : Value} {l : List (List UInt8)} (h : StrAt w S v l) : ∃ A c, v = .slice A l.length c := by
 rcases h with ⟨rfl, rfl⟩ | ⟨b, o, c, rfl, _⟩
 · exact ⟨_, _, rfl⟩
 · exact ⟨_, _, rfl⟩
theorem StrAt.of_own {w : World} {B : Nat} {v : Value} {l : List (List UInt8)} (h : w.ownsRow B 9 1 v l.length (l.map encStr)) : StrAt w (fun b => B ≤ b) v l := by
 have h0 := h
 rcases h.2 with ⟨rfl, hz⟩ | ⟨g, cap, cur, rfl, hb, hg, hn, hm, hs, ht⟩
 · exact .inl ⟨rfl, List.eq_nil_of_length_eq_zero hz⟩
 · refine .inr ⟨g, 0, cap, rfl, hn, hb, fun j x hx => ?_⟩
   have hj : j < l.length := (List.getElem?_eq_some_iff.1 hx).1
   rw [Nat.zero_add, h0.cellAt j (by omega), List.getElem?_map, hx]
   rfl
theorem encStr_arr (x : List UInt8) : encStr x = .string ⟨x.toArray⟩ := rfl
theorem mem_bytes {l : List (List UInt8)} {x : List UInt8} : (⟨x.toArray⟩ : ByteArray) ∈ l.map (fun y => (⟨y.toArray⟩ : ByteArray)) ↔ x ∈ l := by
 rw [List.mem_map]
 constructor
 · rintro ⟨y, hy, he⟩
   have : y = x := by
    have := congrArg (fun z : ByteArray => z.data.toList) he
    simpa using this
   exact this ▸ hy
 · exact fun h => ⟨x, h, rfl⟩
theorem contains_any (S : Nat → Prop) (v : Value) (l : List (List UInt8)) (x : List UInt8) (w : World) (h : StrAt w S v l) (hl : l.length ≤ 1000000000) :
    Calls Tryz.prog 74 #[v, .string ⟨x.toArray⟩] w fun e w' => e = .returned (.bool (decide (x ∈ l))) ∧ w' = w := by
 rcases h with ⟨rfl, rfl⟩ | ⟨b, o, c, rfl, hc, _, hj⟩
 · exact (Tryz.slices_Contains_string_empty none 0 ⟨x.toArray⟩ w).mono fun e w' ⟨he, hw⟩ => ⟨by rw [he]; simp, hw⟩
 · have hz := Tryz.slices_Contains_string b o l.length c (l.map fun y => ⟨y.toArray⟩) ⟨x.toArray⟩ w (by simp) (by omega) (fun j hj' => by
     have hj2 : j < l.length := by simpa using hj'
     rw [hj j _ (List.getElem?_eq_getElem hj2), encStr_arr]
     simp [List.getD, List.getElem?_eq_getElem hj2])
   refine hz.mono fun e w' ⟨he, hw⟩ => ⟨?_, hw⟩
   rw [he]
   congr 2
   rw [Bool.eq_iff_iff, Lib.containsS_iff, decide_eq_true_eq, List.take_of_length_le (by simp), mem_bytes]
end Go.Proofs.YtaecndmncpfpfaaGreatDoor
namespace Go.Proofs.YtaecndmncpfpfaaGreatDoor
open Go.RowKit Go.Shelf Go.Sort
theorem info9 : (Tryz.prog.info? 9).map (fun i => (i.zero, i.size, i.bytes)) = some (some (.string ⟨#[]⟩), 1, 16) := by kernel_rfl
theorem grow_any (n : Nat) (w : World) (hn : n ≤ 1000000000) :
    Calls Tryz.prog 111 #[.slice none 0 0, .int .i64 (n : Int)] w fun e w' => ∃ v, e = .returned v ∧ w'.ownsRow w.heap.size 9 1 v 0 [] ∧ Below w.heap.size w w' := by
 by_cases h0 : n = 0
 · subst h0
   exact (Any8.slices_Grow_room Tryz.laysGrow none 0 0 0 w (by omega) (by omega) (by omega) (by omega)).mono fun e w' ⟨he, hw⟩ => ⟨_, he, World.ownsRow_nil _ _ _ _, hw ▸ Below.refl _ _⟩
 · obtain ⟨i0, hi, hq0, hq1, hq2⟩ := info_parts info9
   have hg := Any8.slices_Grow_grow Tryz.laysGrow i0 _ (show Tryz.prog.info? 9 = some i0 from hi) hq0 (by omega) none 0 0 n [] w (by omega) (by omega) (by rw [hq2]; omega) (by omega) (by simp) (fun _ => rfl) (fun a ha => by cases ha)
   rw [show Tryz.laysGrow_ren.t 25 = 9 from rfl] at hg
   refine hg.mono fun e w' ⟨he, hw⟩ => ⟨_, he, ?_, ?_⟩
   · subst hw
     refine ⟨rfl, .inr ⟨w.heap.size, grownCap w (0 + n) 0 9, _, rfl, Nat.le_refl _, heap_new_at (by simp), Nat.zero_le _, grownCap_le_maxLen w _ 0 9 (by unfold maxLen; omega), ?_, by simp⟩⟩
     have := grownCap_ge w n 0 9
     simp [Builtin.zeroCells, Value.cells]
     omega
   · subst hw
     exact ((Below.refl _ w).drew).alloc (Nat.le_refl _) _
theorem wpList_append_strs {ops : Array Oper} {rest : List Oper} {o : Oper} {a : Act} {w : World} {Q : Exit → Act → World → Prop} (hgd : o.guard = none) (s x : Operand)
    (ho : o.op = .call { callee := .builtin .append, args := #[s, x], argTypes := #[50, 50] })
    (base : Nat) (v : Value) (l l2 : List (List UInt8)) (hs : a.eval s = v) (hown : w.ownsRow base 9 1 v l.length (l.map encStr)) (S : Nat → Prop) (vx : Value) (hx : a.eval x = vx) (hst : StrAt w S vx l2)
    (hlen : l.length + l2.length ≤ 1000000000) (hbase : base ≤ w.heap.size)
    (h : ∀ v' w', w'.ownsRow base 9 1 v' (l ++ l2).length ((l ++ l2).map encStr) → w.grownBy w' v.ownBlock → (v'.ownBlock = v.ownBlock ∨ v'.ownBlock = some w.heap.size) → wpList Tryz.prog ops Q rest (a.put o.dst v') w') :
    wpList Tryz.prog ops Q (o :: rest) a w := by
 obtain ⟨i0, hi, hq0, hq1, hq2⟩ := info_parts info9
 rcases hst with ⟨rfl, rfl⟩ | ⟨b, o', c, rfl, hc, _, hj⟩
 · refine wpList_append_own_none hgd s x 50 ho base 9 i0 1 Tryz.underlying50 hi v l.length (l.map encStr) hs hown hx ?_
   refine h v w (by simpa using hown) ⟨rfl, rfl, rfl, Nat.le_refl _, fun _ _ _ => rfl⟩ (.inl rfl)
 · refine wpList_append_own_at w hgd s x 50 ho base 9 i0 (.string ⟨#[]⟩) 1 16 Tryz.underlying50 hi hq0 hq1 hq2 rfl (by decide) v l.length (l.map encStr) hs hown ⟨b, o', none⟩ l2.length c (l2.map encStr) hx (by simp) (fun j u hu => ?_) (fun u hu => ?_) (by unfold maxLen; omega) (by omega) hbase (fun v' w' h1 h2 _ h4 => ?_)
   · rw [List.getElem?_map] at hu
     cases hl : l2[j]? with
     | none => rw [hl] at hu; cases hu
     | some y =>
       rw [hl] at hu
       have hu' : encStr y = u := Option.some.inj hu
       rw [← hu']
       have hjy := hj j y hl
       unfold Addr.add
       split
       · rename_i h0; subst h0; exact hjy
       · exact hjy
   · obtain ⟨y, _, rfl⟩ := List.mem_map.1 hu
     rfl
   · exact h v' w' (by rw [List.length_append, List.map_append]; exact h1) h2 h4
def catJ (a b : List (List UInt8)) : Nat → List (List UInt8)
 | 0 => []
 | 1 => a
 | _ => a ++ b
def szJ (a b : Nat) : Nat → Nat
 | 0 => 0
 | 1 => a
 | _ => a + b
set_option maxRecDepth 100000 in
set_option maxHeartbeats 1000000 in
theorem concat_any (S : Nat → Prop) (g : Nat) (v1 v2 : Value) (l1 l2 : List (List UInt8)) (w : World) (h1 : StrAt w S v1 l1) (h2 : StrAt w S v2 l2) (hg : w.heap[g]? = some (.cells #[v1, v2] 50 (0, 0))) (hl : l1.length + l2.length ≤ 1000000) :
    Calls Tryz.prog 76 #[.slice (some ⟨g, 0, none⟩) 2 2] w fun e w' => (∃ v', e = .returned v' ∧ StrAt w' (fun b => w.heap.size ≤ b) v' (l1 ++ l2)) ∧ Below w.heap.size w w' := by
 have c0 := zG hg
 have c1 := zF hg
 have hgl := zC hg
 obtain ⟨A1, k1, rfl⟩ := h1.form
 obtain ⟨A2, k2, rfl⟩ := h2.form
 have H1 := Lib.hid h1
 have H2 := Lib.hid h2
 clear h1 h2
 go_enter Tryz.func76, Tryz.ntmps76
 go_wp2_with (fail)
 go_loopw [3, 11] (fun sz iv wr => ∃ j : Nat, iv = .int .i64 (j : Int) ∧ j ≤ 2 ∧ sz = .int .i64 ((szJ l1.length l2.length j : Nat) : Int) ∧ wr = w) (fun _ iv _ => 2 - (intOf iv).toNat)
 case atStart => exact ⟨0, rfl, by omega, rfl, rfl⟩
 case round =>
  obtain ⟨j, rfl, hj, rfl, hw⟩ := hrel
  have hw' := hw.symm
  subst hw'
  rcases (show j = 0 ∨ j = 1 ∨ j = 2 by omega) with rfl | rfl | rfl
  · have e0 : szJ l1.length l2.length 0 = 0 := rfl
    rw [e0]
    go_wp2_with (fail)
    go_roundw
    case rel => exact ⟨1, by go_num, by omega, by go_num, trivial⟩
    case measure => simp [intOf]
  · have e0 : szJ l1.length l2.length 1 = l1.length := rfl
    rw [e0]
    go_wp2_with (fail)
    go_roundw
    case rel => exact ⟨2, by go_num, by omega, by go_num, trivial⟩
    case measure => simp [intOf]
  · have e0 : szJ l1.length l2.length 2 = l1.length + l2.length := rfl
    obtain ⟨n, hn⟩ : ∃ n, n = l1.length + l2.length := ⟨_, rfl⟩
    have HN := Lib.hid hn
    rw [e0, ← hn]
    have hn1 : n ≤ 1000000 := by omega
    clear hn e0
    go_wp2_with (fail)
    refine (grow_any n w (by omega)).mono ?_
    rintro e w2 ⟨v2, rfl, ho2, hb2⟩
    have HO2 := Lib.hid ho2
    have HB2 := Lib.hid hb2
    clear ho2 hb2
    go_wp2_with (fail)
    go_loopw [6, 27] (fun ns iv wq => ∃ j : Nat, iv = .int .i64 (j : Int) ∧ j ≤ 2 ∧ wq.ownsRow w.heap.size 9 1 ns (catJ l1 l2 j).length ((catJ l1 l2 j).map encStr) ∧ Hid (Below w.heap.size w wq)) (fun _ iv _ => 2 - (intOf iv).toNat)
    case atStart => exact ⟨0, rfl, by omega, HO2.out, HB2⟩
    case round =>
     obtain ⟨j, rfl, hj, ho, HB⟩ := hrel
     have HOW := Lib.hid ho
     have hsz := HB.out.size
     clear ho
     have k0 := (HB.out.cell (p := ⟨g, 0, none⟩) hgl).trans c0
     have k1 := (HB.out.cell (p := ⟨g, 1, none⟩) hgl).trans c1
     rcases (show j = 0 ∨ j = 1 ∨ j = 2 by omega) with rfl | rfl | rfl
     · go_wp2_with (at_builtin; refine wpList_append_strs rfl _ _ rfl w.heap.size _ (catJ l1 l2 0) l1 rfl HOW.out S _ rfl (H1.out.below HB.out) (by simp [catJ]; omega) hsz ?_; intro v7 w7 hown7 hgrow7 hat7)
       go_roundw
       case rel => exact ⟨1, by go_num, by omega, hown7, HB.out.grown hgrow7 hsz (fun k hk => (HOW.out.lt k hk).1)⟩
       case measure => simp [intOf]
     · go_wp2_with (at_builtin; refine wpList_append_strs rfl _ _ rfl w.heap.size _ (catJ l1 l2 1) l2 rfl HOW.out S _ rfl (H2.out.below HB.out) (by simp [catJ]; omega) hsz ?_; intro v7 w7 hown7 hgrow7 hat7)
       go_roundw
       case rel => exact ⟨2, by go_num, by omega, hown7, HB.out.grown hgrow7 hsz (fun k hk => (HOW.out.lt k hk).1)⟩
       case measure => simp [intOf]
     · go_wp2_with (fail)
       go_ret
       exact ⟨⟨_, rfl, StrAt.of_own HOW.out⟩, HB.out⟩
end Go.Proofs.YtaecndmncpfpfaaGreatDoor
namespace Go.Proofs.YtaecndmncpfpfaaGreatDoor
open Go.RowKit Go.Shelf Go.Sort
theorem putRow_grown (enc : List UInt8 → Value) (w : World) (q g off : Nat) (d : Array (List UInt8)) : w.grownBy (putRow enc (Sort.ahead w q) g off d) (some g) := by
 refine ⟨rfl, rfl, rfl, by simp [putRow, mapBlock, Sort.ahead], fun k hk hne => ?_⟩
 have : g ≠ k := fun e => hne (by rw [e])
 simp [putRow, mapBlock, Sort.ahead, Array.getElem?_modify, this]
abbrev sortL (l : List (List UInt8)) : List (List UInt8) := l.mergeSort fun x y => decide (x ≤ y)
theorem sort_own (B : Nat) (v : Value) (l : List (List UInt8)) (w : World) (h : w.ownsRow B 9 1 v l.length (l.map encStr)) (hl : l.length ≤ 1000000000) :
    Calls Tryz.prog 43 #[v] w fun e w' => e = .returned (.tuple #[]) ∧ w'.ownsRow B 9 1 v (sortL l).length ((sortL l).map encStr) ∧ w.grownBy w' v.ownBlock := by
 have h0 := h
 rcases h.2 with ⟨rfl, hz⟩ | ⟨g, cap, cur, rfl, hb, hg, hn, hm, hs, ht⟩
 · have : l = [] := List.eq_nil_of_length_eq_zero hz
   subst this
   refine (Any.slices_Sort_string_none Tryz.lays190 none 0 w).mono fun e w' ⟨he, hw⟩ => ⟨he, ?_, ?_⟩
   · rw [hw, show sortL [] = [] by simp [sortL]]; exact h0
   · rw [hw]; exact ⟨rfl, rfl, rfl, Nat.le_refl _, fun _ _ _ => rfl⟩
 · have hgl : g < w.heap.size := zC hg
   have hH := holds_of_block (ss := l) hg (by simpa using ht)
   refine (Any.slices_Sort_string Tryz.lays190 g 0 cap l w hH hgl (by omega)).mono fun e w' ⟨he, n, os, hw⟩ => ⟨he, ?_, ?_⟩
   · rw [hw]
     have := ownsRow_sorted (n := n) (os := os) (ss := l) (ts := sortL l) (List.length_mergeSort l) hb hg hn hm hs
     rwa [show (sortL l).length = l.length from List.length_mergeSort l]
   · rw [hw]; exact grownBy_sorted _
theorem compact_own (B : Nat) (v : Value) (l : List (List UInt8)) (w : World) (h : w.ownsRow B 9 1 v l.length (l.map encStr)) (hl : l.length ≤ 1000000000) :
    Calls Tryz.prog 44 #[v] w fun e w' => ∃ v', e = .returned v' ∧ w'.ownsRow B 9 1 v' (Lib.compact l).length ((Lib.compact l).map encStr) ∧ v'.ownBlock = v.ownBlock ∧ w.grownBy w' v.ownBlock := by
 have h0 := h
 rcases h.2 with ⟨rfl, hz⟩ | ⟨g, cap, cur, rfl, hb, hg, hn, hm, hs, ht⟩
 · have : l = [] := List.eq_nil_of_length_eq_zero hz
   subst this
   refine (Tryz.slices_Compact_string_empty none 0 w).mono fun e w' ⟨he, hw⟩ => ⟨_, he, ?_, rfl, ?_⟩
   · rw [hw]; exact h0
   · rw [hw]; exact ⟨rfl, rfl, rfl, Nat.le_refl _, fun _ _ _ => rfl⟩
 · have hgl : g < w.heap.size := zC hg
   have hH := holds_of_block (ss := l) hg (by simpa using ht)
   have hcl := Lib.compact_length_le l
   refine (Tryz.slices_Compact_string g 0 cap l w hH (by omega) (by omega)).mono fun e w' ⟨he, q, hw⟩ => ⟨_, he, ?_, rfl, ?_⟩
   · rw [hw]
     have := Lib.ownsRow_putRow (q := q) (k := (Lib.compact l).length) (ys := Lib.compact l ++ List.replicate (l.length - (Lib.compact l).length) []) h0 (by simp; omega) hcl
     rw [List.take_left] at this
     exact this
   · rw [hw]; exact putRow_grown _ _ _ _ _ _
theorem own_set {w : World} {B g : Nat} {n c : Nat} {l : List (List UInt8)} {j : Nat} {x : List UInt8} (h : w.ownsRow B 9 1 (.slice (some ⟨g, 0, none⟩) n c) l.length (l.map encStr)) (hx : l[j]? = some x) :
    (w.setCell ⟨g, j, none⟩ (encStr x)).ownsRow B 9 1 (.slice (some ⟨g, 0, none⟩) n c) l.length (l.map encStr) ∧ w.grownBy (w.setCell ⟨g, j, none⟩ (encStr x)) (some g) := by
 refine ⟨⟨h.1, ?_⟩, ⟨rfl, rfl, rfl, by simp [World.setCell], fun k _ hk => Below.heap_setCell _ _ _ _ (fun e => hk (by simp [e]))⟩⟩
 rcases h.2 with ⟨e, _⟩ | ⟨g', cap, cur, e, hb, hg, hn, hm, hs, ht⟩
 · cases e
 · have hj := (List.getElem?_eq_some_iff.1 hx).1
   have e0 := e
   injection e with e1 e2 e3
   injection e1 with e1
   injection e1 with e1
   subst e1
   refine .inr ⟨g, cap, cur.set! j (encStr x), e0, hb, ?_, hn, hm, by simpa using hs, ?_⟩
   · simp [World.setCell, Array.getElem?_modify, hg]
   · have hc : cur.toList[j]? = some (encStr x) := by
       have h1 : (cur.toList.take (l.length * 1))[j]? = (l.map encStr)[j]? := by rw [ht]
       rw [List.getElem?_take_of_lt (by omega), List.getElem?_map, hx] at h1
       exact h1
     have hset : (cur.set! j (encStr x)).toList = cur.toList := by
      rw [Array.set!_eq_setIfInBounds, Array.toList_setIfInBounds]
      apply List.ext_getElem?
      intro i
      rw [List.getElem?_set]
      split
      · rename_i hij
        subst hij
        rw [hc]
        split
        · rfl
        · rename_i hlt
          have := (List.getElem?_eq_some_iff.1 hc).1
          omega
      · rfl
     rw [hset]; exact ht
