import Derived.Test.YtaecndmncpfpfaaGreatDoorDc
import Derived.Test.YtaecndmncpfpfaaGreatDoorCw
set_option linter.unusedVariables false
set_option linter.unusedSimpArgs false
namespace Go.Proofs.YtaecndmncpfpfaaGreatDoor
open Go.RowKit
def mkT (k : Int) : Ty := .mk k []
def zS (n : Nd) : List (List Ty) :=
 if n.op = [105, 110, 116] then [[mkT 2]] else
 if n.op = [116, 101, 120, 116, 95, 111, 102] then [[mkT 3]] else
 if n.op = [116, 114, 117, 101] then [[mkT 1]] else
 if n.op = [102, 97, 108, 115, 101] then [[mkT 1]] else
 if n.op = [97, 100, 100] then [[mkT 2, mkT 2, mkT 2], [mkT 5, mkT 5, mkT 5]] else
 if n.op = [115, 117, 98] then [[mkT 2, mkT 2, mkT 2], [mkT 5, mkT 5, mkT 5]] else
 if n.op = [109, 117, 108] then [[mkT 2, mkT 2, mkT 2], [mkT 5, mkT 5, mkT 5]] else
 if n.op = [110, 101, 103] then [[mkT 2, mkT 2], [mkT 5, mkT 5]] else
 if n.op = [100, 105, 118] then [[mkT 2, mkT 2, mkT 2]] else
 if n.op = [109, 111, 100] then [[mkT 2, mkT 2, mkT 2]] else
 if n.op = [97, 110, 100] then [[mkT 1, mkT 1, mkT 1]] else
 if n.op = [111, 114] then [[mkT 1, mkT 1, mkT 1]] else
 if n.op = [110, 111, 116] then [[mkT 1, mkT 1]] else
 if n.op = [114, 97, 110, 103, 101] then [[mkT 2, .mk 7 [mkT 2]]] else
 if n.op = [106, 111, 105, 110] then [[mkT 3, mkT 3, mkT 3]] else
 if n.op = [115, 105, 122, 101] then [[mkT 3, mkT 2], [mkT 4, mkT 2]] else
 if n.op = [99, 117, 116] then [[mkT 3, mkT 2, mkT 2, mkT 3], [mkT 4, mkT 2, mkT 2, mkT 4]] else
 if n.op = [98, 121, 116, 101, 115] then [[mkT 3, mkT 4]] else
 if n.op = [116, 101, 120, 116] then [[mkT 4, mkT 3]] else
 if n.op = [115, 104, 111, 119] then [[mkT 2, mkT 3]] else
 if n.op = [112, 111, 105, 110, 116] then [[mkT 2, mkT 2, mkT 5]] else
 if n.op = [114, 101] then [[mkT 5, mkT 2]] else
 if n.op = [105, 109] then [[mkT 5, mkT 2]] else
 if n.op = [99, 111, 110, 106] then [[mkT 5, mkT 5]] else
 [yM n.op n.ty n.kids.length]
def zU (ks : List Int) : List Value := ks.flatMap fun k => [.int .i64 k, .slice none 0 0]
theorem plain_get : ∀ (ks : List Int) (j : Nat) (k : Int), ks[j]? = some k → (zU ks)[j * 2]? = some (.int .i64 k) ∧ (zU ks)[j * 2 + 1]? = some (.slice none 0 0)
 | x :: r, 0, k, h => by simp at h; subst h; exact ⟨rfl, rfl⟩
 | x :: r, j + 1, k, h => by
   have h' : r[j]? = some k := by simpa using h
   have ih := plain_get r j k h'
   have e : zU (x :: r) = .int .i64 x :: .slice none 0 0 :: zU r := rfl
   rw [e, show (j + 1) * 2 = j * 2 + 1 + 1 by omega]
   exact ⟨by simpa using ih.1, by simpa using ih.2⟩
theorem args_plain {w : World} {P : Nat → Prop} {b : Nat} {ks : List Int} (h : w.heap[b]? = some (.cells (zU ks).toArray 34 (0, 0))) (hP : P b) : Knd.yE w P 1 (some ⟨b, 0, none⟩) (ks.map mkT) := fun _ =>
 ⟨b, 0, rfl, hP, fun j a ha => by
  rw [List.getElem?_map] at ha
  cases hk : ks[j]? with
  | none => rw [hk] at ha; cases ha
  | some k =>
    rw [hk] at ha
    obtain rfl : mkT k = a := Option.some.inj ha
    obtain ⟨g0, g1⟩ := plain_get ks j k hk
    rw [Nat.zero_add]
    exact ⟨_, _, zD h (by simpa using g0), zD h (by simpa using g1), zY _ _ _ _⟩⟩
def FoOut (w w' : World) (S : Nat → Prop) (e : Ending) (fs : List (List Ty)) : Prop := ∃ FA fk D, e = .returned (.slice FA fs.length fk) ∧ FormsAt w' (fun k => S k ∨ (w.heap.size ≤ k ∧ k < w'.heap.size)) D FA fs
theorem fin1 {w W : World} {S : Nat → Prop} (ks : List Int) (hB : Below w.heap.size w W) (e : Ending) (he : e = .returned (.slice (some ⟨W.heap.size + 1, 0, none⟩) 1 1)) :
    FoOut w ((W.alloc (.cells (zU ks).toArray 34)).alloc (.cells #[.slice (some ⟨W.heap.size, 0, none⟩) ks.length ks.length] 168)) S e [ks.map mkT] ∧ Below w.heap.size w ((W.alloc (.cells (zU ks).toArray 34)).alloc (.cells #[.slice (some ⟨W.heap.size, 0, none⟩) ks.length ks.length] 168)) := by
 subst he
 have hs := hB.size
 have h1 : ((W.alloc (.cells (zU ks).toArray 34)).alloc (.cells #[.slice (some ⟨W.heap.size, 0, none⟩) ks.length ks.length] 168)).heap[W.heap.size + 1]? = some (.cells #[.slice (some ⟨W.heap.size, 0, none⟩) ks.length ks.length] 168 (0, 0)) := by
  simpa using heap_alloc_new (W.alloc (.cells (zU ks).toArray 34)) (.cells #[.slice (some ⟨W.heap.size, 0, none⟩) ks.length ks.length] 168)
 have h0 : ((W.alloc (.cells (zU ks).toArray 34)).alloc (.cells #[.slice (some ⟨W.heap.size, 0, none⟩) ks.length ks.length] 168)).heap[W.heap.size]? = some (.cells (zU ks).toArray 34 (0, 0)) := zE (heap_alloc_new W _)
 refine ⟨⟨_, 1, 1, rfl, fun _ => ⟨W.heap.size + 1, 0, rfl, .inr ⟨by omega, by simp⟩, fun j f hf => ?_⟩⟩, (hB.alloc hs _).alloc (by simp <;> omega) _⟩
 cases j with
 | zero =>
   obtain rfl : ks.map mkT = f := Option.some.inj hf
   exact ⟨some ⟨W.heap.size, 0, none⟩, ks.length, by rw [List.length_map]; exact zD (i := 0) h1 rfl, by rw [List.length_map]; exact Nat.le_refl _, args_plain h0 (.inr ⟨by omega, by simp <;> omega⟩)⟩
 | succ j => cases hf
theorem fin2 {w W : World} {S : Nat → Prop} (ks ls : List Int) (hB : Below w.heap.size w W) (e : Ending) (he : e = .returned (.slice (some ⟨W.heap.size + 1 + 1, 0, none⟩) 2 2)) :
    FoOut w (((W.alloc (.cells (zU ks).toArray 34)).alloc (.cells (zU ls).toArray 34)).alloc (.cells #[.slice (some ⟨W.heap.size, 0, none⟩) ks.length ks.length, .slice (some ⟨W.heap.size + 1, 0, none⟩) ls.length ls.length] 168)) S e [ks.map mkT, ls.map mkT] ∧ Below w.heap.size w (((W.alloc (.cells (zU ks).toArray 34)).alloc (.cells (zU ls).toArray 34)).alloc (.cells #[.slice (some ⟨W.heap.size, 0, none⟩) ks.length ks.length, .slice (some ⟨W.heap.size + 1, 0, none⟩) ls.length ls.length] 168)) := by
 subst he
 have hs := hB.size
 generalize hF : (Obj.cells #[.slice (some ⟨W.heap.size, 0, none⟩) ks.length ks.length, .slice (some ⟨W.heap.size + 1, 0, none⟩) ls.length ls.length] 168) = F
 have h2 : (((W.alloc (.cells (zU ks).toArray 34)).alloc (.cells (zU ls).toArray 34)).alloc F).heap[W.heap.size + 1 + 1]? = some F := by
  simpa using heap_alloc_new ((W.alloc (.cells (zU ks).toArray 34)).alloc (.cells (zU ls).toArray 34)) F
 have h1 : (((W.alloc (.cells (zU ks).toArray 34)).alloc (.cells (zU ls).toArray 34)).alloc F).heap[W.heap.size + 1]? = some (.cells (zU ls).toArray 34 (0, 0)) := by
  refine zE ?_
  simpa using heap_alloc_new (W.alloc (.cells (zU ks).toArray 34)) (.cells (zU ls).toArray 34)
 have h0 : (((W.alloc (.cells (zU ks).toArray 34)).alloc (.cells (zU ls).toArray 34)).alloc F).heap[W.heap.size]? = some (.cells (zU ks).toArray 34 (0, 0)) := zE (zE (heap_alloc_new W _))
 subst hF
 refine ⟨⟨_, 2, 1, rfl, fun _ => ⟨W.heap.size + 1 + 1, 0, rfl, .inr ⟨by omega, by simp⟩, fun j f hf => ?_⟩⟩, ((hB.alloc hs _).alloc (by simp <;> omega) _).alloc (by simp <;> omega) _⟩
 match j, hf with
 | 0, hf =>
   obtain rfl : ks.map mkT = f := Option.some.inj hf
   exact ⟨some ⟨W.heap.size, 0, none⟩, ks.length, by rw [List.length_map]; exact zD (i := 0) h2 rfl, by rw [List.length_map]; exact Nat.le_refl _, args_plain h0 (.inr ⟨by omega, by simp <;> omega⟩)⟩
 | 1, hf =>
   obtain rfl : ls.map mkT = f := Option.some.inj hf
   exact ⟨some ⟨W.heap.size + 1, 0, none⟩, ls.length, by rw [List.length_map]; exact zD (i := 1) h2 rfl, by rw [List.length_map]; exact Nat.le_refl _, args_plain h1 (.inr ⟨by omega, by simp <;> omega⟩)⟩
 | j + 2, hf => cases hf
theorem finR {w W : World} {S : Nat → Prop} (hB : Below w.heap.size w W) (e : Ending) (he : e = .returned (.slice (some ⟨W.heap.size + 1 + 1 + 1, 0, none⟩) 1 1)) :
    FoOut w ((((W.alloc (.cells #[.int .i64 2, .slice none 0 0] 34)).alloc (.cells #[.int .i64 7, .slice (some ⟨W.heap.size, 0, none⟩) 1 1] 34)).alloc (.cells #[.int .i64 2, .slice none 0 0, .int .i64 7, .slice (some ⟨W.heap.size, 0, none⟩) 1 1] 34)).alloc (.cells #[.slice (some ⟨W.heap.size + 1 + 1, 0, none⟩) 2 2] 168)).drew S e [[mkT 2, .mk 7 [mkT 2]]] ∧ Below w.heap.size w ((((W.alloc (.cells #[.int .i64 2, .slice none 0 0] 34)).alloc (.cells #[.int .i64 7, .slice (some ⟨W.heap.size, 0, none⟩) 1 1] 34)).alloc (.cells #[.int .i64 2, .slice none 0 0, .int .i64 7, .slice (some ⟨W.heap.size, 0, none⟩) 1 1] 34)).alloc (.cells #[.slice (some ⟨W.heap.size + 1 + 1, 0, none⟩) 2 2] 168)).drew := by
 subst he
 have hs := hB.size
 have hF : ((((W.alloc (.cells #[.int .i64 2, .slice none 0 0] 34)).alloc (.cells #[.int .i64 7, .slice (some ⟨W.heap.size, 0, none⟩) 1 1] 34)).alloc (.cells #[.int .i64 2, .slice none 0 0, .int .i64 7, .slice (some ⟨W.heap.size, 0, none⟩) 1 1] 34)).alloc (.cells #[.slice (some ⟨W.heap.size + 1 + 1, 0, none⟩) 2 2] 168)).drew.heap[W.heap.size + 1 + 1 + 1]? = some (.cells #[.slice (some ⟨W.heap.size + 1 + 1, 0, none⟩) 2 2] 168 (0, 0)) := by
  show (((((W.alloc (.cells #[.int .i64 2, .slice none 0 0] 34)).alloc (.cells #[.int .i64 7, .slice (some ⟨W.heap.size, 0, none⟩) 1 1] 34)).alloc (.cells #[.int .i64 2, .slice none 0 0, .int .i64 7, .slice (some ⟨W.heap.size, 0, none⟩) 1 1] 34)).alloc (.cells #[.slice (some ⟨W.heap.size + 1 + 1, 0, none⟩) 2 2] 168))).heap[W.heap.size + 1 + 1 + 1]? = _
  simpa using heap_alloc_new (((W.alloc (.cells #[.int .i64 2, .slice none 0 0] 34)).alloc (.cells #[.int .i64 7, .slice (some ⟨W.heap.size, 0, none⟩) 1 1] 34)).alloc (.cells #[.int .i64 2, .slice none 0 0, .int .i64 7, .slice (some ⟨W.heap.size, 0, none⟩) 1 1] 34)) (.cells #[.slice (some ⟨W.heap.size + 1 + 1, 0, none⟩) 2 2] 168)
 have hC : ((((W.alloc (.cells #[.int .i64 2, .slice none 0 0] 34)).alloc (.cells #[.int .i64 7, .slice (some ⟨W.heap.size, 0, none⟩) 1 1] 34)).alloc (.cells #[.int .i64 2, .slice none 0 0, .int .i64 7, .slice (some ⟨W.heap.size, 0, none⟩) 1 1] 34)).alloc (.cells #[.slice (some ⟨W.heap.size + 1 + 1, 0, none⟩) 2 2] 168)).drew.heap[W.heap.size + 1 + 1]? = some (.cells #[.int .i64 2, .slice none 0 0, .int .i64 7, .slice (some ⟨W.heap.size, 0, none⟩) 1 1] 34 (0, 0)) := by
  refine zE ?_
  simpa using heap_alloc_new ((W.alloc (.cells #[.int .i64 2, .slice none 0 0] 34)).alloc (.cells #[.int .i64 7, .slice (some ⟨W.heap.size, 0, none⟩) 1 1] 34)) (.cells #[.int .i64 2, .slice none 0 0, .int .i64 7, .slice (some ⟨W.heap.size, 0, none⟩) 1 1] 34)
 have hA : ((((W.alloc (.cells #[.int .i64 2, .slice none 0 0] 34)).alloc (.cells #[.int .i64 7, .slice (some ⟨W.heap.size, 0, none⟩) 1 1] 34)).alloc (.cells #[.int .i64 2, .slice none 0 0, .int .i64 7, .slice (some ⟨W.heap.size, 0, none⟩) 1 1] 34)).alloc (.cells #[.slice (some ⟨W.heap.size + 1 + 1, 0, none⟩) 2 2] 168)).drew.heap[W.heap.size]? = some (.cells #[.int .i64 2, .slice none 0 0] 34 (0, 0)) := zE (zE (zE (heap_alloc_new W _)))
 have hz : ((((W.alloc (.cells #[.int .i64 2, .slice none 0 0] 34)).alloc (.cells #[.int .i64 7, .slice (some ⟨W.heap.size, 0, none⟩) 1 1] 34)).alloc (.cells #[.int .i64 2, .slice none 0 0, .int .i64 7, .slice (some ⟨W.heap.size, 0, none⟩) 1 1] 34)).alloc (.cells #[.slice (some ⟨W.heap.size + 1 + 1, 0, none⟩) 2 2] 168)).drew.heap.size = W.heap.size + 4 := by show (((((W.alloc (.cells #[.int .i64 2, .slice none 0 0] 34)).alloc (.cells #[.int .i64 7, .slice (some ⟨W.heap.size, 0, none⟩) 1 1] 34)).alloc (.cells #[.int .i64 2, .slice none 0 0, .int .i64 7, .slice (some ⟨W.heap.size, 0, none⟩) 1 1] 34)).alloc (.cells #[.slice (some ⟨W.heap.size + 1 + 1, 0, none⟩) 2 2] 168))).heap.size = _; simp
 refine ⟨⟨_, 1, 2, rfl, fun _ => ⟨W.heap.size + 1 + 1 + 1, 0, rfl, .inr ⟨by omega, by rw [hz]; omega⟩, fun j f hf => ?_⟩⟩, (((((hB.alloc hs _).alloc (by simp <;> omega) _).alloc (by simp <;> omega) _).alloc (by simp <;> omega) _).drew)⟩
 cases j with
 | zero =>
   obtain rfl : [mkT 2, .mk 7 [mkT 2]] = f := Option.some.inj hf
   refine ⟨_, 2, zD (i := 0) hF rfl, Nat.le_refl _, fun _ => ⟨W.heap.size + 1 + 1, 0, rfl, .inr ⟨by omega, by rw [hz]; omega⟩, fun i a ha => ?_⟩⟩
   match i, ha with
   | 0, ha =>
     obtain rfl : mkT 2 = a := Option.some.inj ha
     exact ⟨_, _, zD (i := 0) hC rfl, zD (i := 1) hC rfl, zY _ _ _ _⟩
   | 1, ha =>
     obtain rfl : Ty.mk 7 [mkT 2] = a := Option.some.inj ha
     refine ⟨_, _, zD (i := 2) hC rfl, zD (i := 3) hC rfl, some ⟨W.heap.size, 0, none⟩, 1, rfl, Nat.le_refl _, fun _ => ⟨W.heap.size, 0, rfl, .inr ⟨by omega, by rw [hz]; omega⟩, fun j x hx => ?_⟩⟩
     cases j with
     | zero =>
       obtain rfl : mkT 2 = x := Option.some.inj hx
       exact ⟨_, _, zD (i := 0) hA rfl, zD (i := 1) hA rfl, zY _ _ _ _⟩
     | succ j => cases hx
   | i + 2, ha => cases ha
 | succ j => cases hf
set_option maxRecDepth 100000 in
set_option maxHeartbeats 8000000 in
theorem formsOf_any (S : Nat → Prop) (n : Nd) (dn : Nat) (nv : Value) (w : World) (hn : NdAt w S (dn + 1) nv n) (hk64 : n.kids.length ≤ 64) (hSw : ∀ k, S k → k < w.heap.size) :
    Calls Tryz.prog 63 #[nv] w fun e w' => FoOut w w' S e (zS n) ∧ Below w.heap.size w w' := by
 have HN := Lib.hid hn
 obtain ⟨A, c, K, k, rfl, hty, hlk, hkc⟩ := hn
 clear hty hkc
 have hk64' := Lib.hid hk64
 clear hk64 hlk
 obtain ⟨W0, hW0⟩ : ∃ W0, (((((((((((w.alloc (.cells #[.string ⟨n.op.toArray⟩, .int .i64 n.int, .string ⟨n.text.toArray⟩, .int .i64 n.ty.kind, .slice A n.ty.args.length c, .slice K n.kids.length k] 41)).alloc (.cells #[.int .i64 1, .slice none 0 0] 34)).alloc (.cells #[.int .i64 2, .slice none 0 0] 34)).alloc (.cells #[.int .i64 3, .slice none 0 0] 34)).alloc (.cells #[.int .i64 1, .slice none 0 0] 34)).alloc (.cells #[.int .i64 2, .slice none 0 0] 34)).alloc (.cells #[.int .i64 3, .slice none 0 0] 34)).alloc (.cells #[.int .i64 4, .slice none 0 0] 34)).alloc (.cells #[.int .i64 5, .slice none 0 0] 34)).alloc (.cells #[.int .i64 4, .slice none 0 0] 34)).alloc (.cells #[.int .i64 5, .slice none 0 0] 34)) = W0 := ⟨_, rfl⟩
 have hB0 : Below w.heap.size w W0 := by
  rw [← hW0]
  repeat' (first | exact Below.refl _ _ | refine Below.alloc ?_ ?_ _ | (simp; done) | (simp; omega))
 have hs0 : W0.heap.size = w.heap.size + 11 := by rw [← hW0]; simp
 have b0 : W0.heap[w.heap.size]? = some (.cells #[.string ⟨n.op.toArray⟩, .int .i64 n.int, .string ⟨n.text.toArray⟩, .int .i64 n.ty.kind, .slice A n.ty.args.length c, .slice K n.kids.length k] 41 (0, 0)) := by
  rw [← hW0]
  exact zE (zE (zE (zE (zE (zE (zE (zE (zE (zE ((show ((w.alloc (.cells #[.string ⟨n.op.toArray⟩, .int .i64 n.int, .string ⟨n.text.toArray⟩, .int .i64 n.ty.kind, .slice A n.ty.args.length c, .slice K n.kids.length k] 41))).heap[w.heap.size]? = some (.cells #[.string ⟨n.op.toArray⟩, .int .i64 n.int, .string ⟨n.text.toArray⟩, .int .i64 n.ty.kind, .slice A n.ty.args.length c, .slice K n.kids.length k] 41 (0, 0)) from by simpa using heap_alloc_new w (.cells #[.string ⟨n.op.toArray⟩, .int .i64 n.int, .string ⟨n.text.toArray⟩, .int .i64 n.ty.kind, .slice A n.ty.args.length c, .slice K n.kids.length k] 41))))))))))))
 have bT : W0.heap[w.heap.size + 1 + 1 + 1 + 1]? = some (.cells #[.int .i64 1, .slice none 0 0] 34 (0, 0)) := by
  rw [← hW0]
  exact zE (zE (zE (zE (zE (zE ((show ((((((w.alloc (.cells #[.string ⟨n.op.toArray⟩, .int .i64 n.int, .string ⟨n.text.toArray⟩, .int .i64 n.ty.kind, .slice A n.ty.args.length c, .slice K n.kids.length k] 41)).alloc (.cells #[.int .i64 1, .slice none 0 0] 34)).alloc (.cells #[.int .i64 2, .slice none 0 0] 34)).alloc (.cells #[.int .i64 3, .slice none 0 0] 34)).alloc (.cells #[.int .i64 1, .slice none 0 0] 34))).heap[w.heap.size + 1 + 1 + 1 + 1]? = some (.cells #[.int .i64 1, .slice none 0 0] 34 (0, 0)) from by simpa using heap_alloc_new ((((w.alloc (.cells #[.string ⟨n.op.toArray⟩, .int .i64 n.int, .string ⟨n.text.toArray⟩, .int .i64 n.ty.kind, .slice A n.ty.args.length c, .slice K n.kids.length k] 41)).alloc (.cells #[.int .i64 1, .slice none 0 0] 34)).alloc (.cells #[.int .i64 2, .slice none 0 0] 34)).alloc (.cells #[.int .i64 3, .slice none 0 0] 34)) (.cells #[.int .i64 1, .slice none 0 0] 34))))))))
 have bN : W0.heap[w.heap.size + 1 + 1 + 1 + 1 + 1]? = some (.cells #[.int .i64 2, .slice none 0 0] 34 (0, 0)) := by
  rw [← hW0]
  exact zE (zE (zE (zE (zE ((show (((((((w.alloc (.cells #[.string ⟨n.op.toArray⟩, .int .i64 n.int, .string ⟨n.text.toArray⟩, .int .i64 n.ty.kind, .slice A n.ty.args.length c, .slice K n.kids.length k] 41)).alloc (.cells #[.int .i64 1, .slice none 0 0] 34)).alloc (.cells #[.int .i64 2, .slice none 0 0] 34)).alloc (.cells #[.int .i64 3, .slice none 0 0] 34)).alloc (.cells #[.int .i64 1, .slice none 0 0] 34)).alloc (.cells #[.int .i64 2, .slice none 0 0] 34))).heap[w.heap.size + 1 + 1 + 1 + 1 + 1]? = some (.cells #[.int .i64 2, .slice none 0 0] 34 (0, 0)) from by simpa using heap_alloc_new (((((w.alloc (.cells #[.string ⟨n.op.toArray⟩, .int .i64 n.int, .string ⟨n.text.toArray⟩, .int .i64 n.ty.kind, .slice A n.ty.args.length c, .slice K n.kids.length k] 41)).alloc (.cells #[.int .i64 1, .slice none 0 0] 34)).alloc (.cells #[.int .i64 2, .slice none 0 0] 34)).alloc (.cells #[.int .i64 3, .slice none 0 0] 34)).alloc (.cells #[.int .i64 1, .slice none 0 0] 34)) (.cells #[.int .i64 2, .slice none 0 0] 34)))))))
 have bX : W0.heap[w.heap.size + 1 + 1 + 1 + 1 + 1 + 1]? = some (.cells #[.int .i64 3, .slice none 0 0] 34 (0, 0)) := by
  rw [← hW0]
  exact zE (zE (zE (zE ((show ((((((((w.alloc (.cells #[.string ⟨n.op.toArray⟩, .int .i64 n.int, .string ⟨n.text.toArray⟩, .int .i64 n.ty.kind, .slice A n.ty.args.length c, .slice K n.kids.length k] 41)).alloc (.cells #[.int .i64 1, .slice none 0 0] 34)).alloc (.cells #[.int .i64 2, .slice none 0 0] 34)).alloc (.cells #[.int .i64 3, .slice none 0 0] 34)).alloc (.cells #[.int .i64 1, .slice none 0 0] 34)).alloc (.cells #[.int .i64 2, .slice none 0 0] 34)).alloc (.cells #[.int .i64 3, .slice none 0 0] 34))).heap[w.heap.size + 1 + 1 + 1 + 1 + 1 + 1]? = some (.cells #[.int .i64 3, .slice none 0 0] 34 (0, 0)) from by simpa using heap_alloc_new ((((((w.alloc (.cells #[.string ⟨n.op.toArray⟩, .int .i64 n.int, .string ⟨n.text.toArray⟩, .int .i64 n.ty.kind, .slice A n.ty.args.length c, .slice K n.kids.length k] 41)).alloc (.cells #[.int .i64 1, .slice none 0 0] 34)).alloc (.cells #[.int .i64 2, .slice none 0 0] 34)).alloc (.cells #[.int .i64 3, .slice none 0 0] 34)).alloc (.cells #[.int .i64 1, .slice none 0 0] 34)).alloc (.cells #[.int .i64 2, .slice none 0 0] 34)) (.cells #[.int .i64 3, .slice none 0 0] 34))))))
 have bO : W0.heap[w.heap.size + 1 + 1 + 1 + 1 + 1 + 1 + 1 + 1 + 1]? = some (.cells #[.int .i64 4, .slice none 0 0] 34 (0, 0)) := by
  rw [← hW0]
  exact zE ((show (((((((((((w.alloc (.cells #[.string ⟨n.op.toArray⟩, .int .i64 n.int, .string ⟨n.text.toArray⟩, .int .i64 n.ty.kind, .slice A n.ty.args.length c, .slice K n.kids.length k] 41)).alloc (.cells #[.int .i64 1, .slice none 0 0] 34)).alloc (.cells #[.int .i64 2, .slice none 0 0] 34)).alloc (.cells #[.int .i64 3, .slice none 0 0] 34)).alloc (.cells #[.int .i64 1, .slice none 0 0] 34)).alloc (.cells #[.int .i64 2, .slice none 0 0] 34)).alloc (.cells #[.int .i64 3, .slice none 0 0] 34)).alloc (.cells #[.int .i64 4, .slice none 0 0] 34)).alloc (.cells #[.int .i64 5, .slice none 0 0] 34)).alloc (.cells #[.int .i64 4, .slice none 0 0] 34))).heap[w.heap.size + 1 + 1 + 1 + 1 + 1 + 1 + 1 + 1 + 1]? = some (.cells #[.int .i64 4, .slice none 0 0] 34 (0, 0)) from by simpa using heap_alloc_new (((((((((w.alloc (.cells #[.string ⟨n.op.toArray⟩, .int .i64 n.int, .string ⟨n.text.toArray⟩, .int .i64 n.ty.kind, .slice A n.ty.args.length c, .slice K n.kids.length k] 41)).alloc (.cells #[.int .i64 1, .slice none 0 0] 34)).alloc (.cells #[.int .i64 2, .slice none 0 0] 34)).alloc (.cells #[.int .i64 3, .slice none 0 0] 34)).alloc (.cells #[.int .i64 1, .slice none 0 0] 34)).alloc (.cells #[.int .i64 2, .slice none 0 0] 34)).alloc (.cells #[.int .i64 3, .slice none 0 0] 34)).alloc (.cells #[.int .i64 4, .slice none 0 0] 34)).alloc (.cells #[.int .i64 5, .slice none 0 0] 34)) (.cells #[.int .i64 4, .slice none 0 0] 34)))
 have bC : W0.heap[w.heap.size + 1 + 1 + 1 + 1 + 1 + 1 + 1 + 1 + 1 + 1]? = some (.cells #[.int .i64 5, .slice none 0 0] 34 (0, 0)) := by
  rw [← hW0]
  exact (show ((((((((((((w.alloc (.cells #[.string ⟨n.op.toArray⟩, .int .i64 n.int, .string ⟨n.text.toArray⟩, .int .i64 n.ty.kind, .slice A n.ty.args.length c, .slice K n.kids.length k] 41)).alloc (.cells #[.int .i64 1, .slice none 0 0] 34)).alloc (.cells #[.int .i64 2, .slice none 0 0] 34)).alloc (.cells #[.int .i64 3, .slice none 0 0] 34)).alloc (.cells #[.int .i64 1, .slice none 0 0] 34)).alloc (.cells #[.int .i64 2, .slice none 0 0] 34)).alloc (.cells #[.int .i64 3, .slice none 0 0] 34)).alloc (.cells #[.int .i64 4, .slice none 0 0] 34)).alloc (.cells #[.int .i64 5, .slice none 0 0] 34)).alloc (.cells #[.int .i64 4, .slice none 0 0] 34)).alloc (.cells #[.int .i64 5, .slice none 0 0] 34))).heap[w.heap.size + 1 + 1 + 1 + 1 + 1 + 1 + 1 + 1 + 1 + 1]? = some (.cells #[.int .i64 5, .slice none 0 0] 34 (0, 0)) from by simpa using heap_alloc_new ((((((((((w.alloc (.cells #[.string ⟨n.op.toArray⟩, .int .i64 n.int, .string ⟨n.text.toArray⟩, .int .i64 n.ty.kind, .slice A n.ty.args.length c, .slice K n.kids.length k] 41)).alloc (.cells #[.int .i64 1, .slice none 0 0] 34)).alloc (.cells #[.int .i64 2, .slice none 0 0] 34)).alloc (.cells #[.int .i64 3, .slice none 0 0] 34)).alloc (.cells #[.int .i64 1, .slice none 0 0] 34)).alloc (.cells #[.int .i64 2, .slice none 0 0] 34)).alloc (.cells #[.int .i64 3, .slice none 0 0] 34)).alloc (.cells #[.int .i64 4, .slice none 0 0] 34)).alloc (.cells #[.int .i64 5, .slice none 0 0] 34)).alloc (.cells #[.int .i64 4, .slice none 0 0] 34)) (.cells #[.int .i64 5, .slice none 0 0] 34))
 have HW0 := Lib.hid hW0
 clear hW0
 go_enter Tryz.func63, Tryz.ntmps63
 go_upto_region 3 with (go_at_call 96; refine (ofX _ _ _ _ _).mono ?_; rintro e wa ⟨rfl, rfl⟩)
 rw [HW0.out]
 clear HW0
 have n0 : W0.cell? ⟨w.heap.size, 0, none⟩ = some (.string ⟨n.op.toArray⟩) := zD (i := 0) b0 rfl
 have n1 : W0.cell? ⟨w.heap.size, 1, none⟩ = some (.int .i64 n.int) := zD (i := 1) b0 rfl
 have n2 : W0.cell? ⟨w.heap.size, 2, none⟩ = some (.string ⟨n.text.toArray⟩) := zD (i := 2) b0 rfl
 have n3 : W0.cell? ⟨w.heap.size, 3, none⟩ = some (.int .i64 n.ty.kind) := zD (i := 3) b0 rfl
 have n4 : W0.cell? ⟨w.heap.size, 4, none⟩ = some (.slice A n.ty.args.length c) := zD (i := 4) b0 rfl
 have n5 : W0.cell? ⟨w.heap.size, 5, none⟩ = some (.slice K n.kids.length k) := zD (i := 5) b0 rfl
 have cT0 : W0.cell? ⟨w.heap.size + 1 + 1 + 1 + 1, 0, none⟩ = some (.int .i64 1) := zD (i := 0) bT rfl
 have cT1 : W0.cell? ⟨w.heap.size + 1 + 1 + 1 + 1, 1, none⟩ = some (.slice none 0 0) := zD (i := 1) bT rfl
 have cN0 : W0.cell? ⟨w.heap.size + 1 + 1 + 1 + 1 + 1, 0, none⟩ = some (.int .i64 2) := zD (i := 0) bN rfl
 have cN1 : W0.cell? ⟨w.heap.size + 1 + 1 + 1 + 1 + 1, 1, none⟩ = some (.slice none 0 0) := zD (i := 1) bN rfl
 have cX0 : W0.cell? ⟨w.heap.size + 1 + 1 + 1 + 1 + 1 + 1, 0, none⟩ = some (.int .i64 3) := zD (i := 0) bX rfl
 have cX1 : W0.cell? ⟨w.heap.size + 1 + 1 + 1 + 1 + 1 + 1, 1, none⟩ = some (.slice none 0 0) := zD (i := 1) bX rfl
 have cO0 : W0.cell? ⟨w.heap.size + 1 + 1 + 1 + 1 + 1 + 1 + 1 + 1 + 1, 0, none⟩ = some (.int .i64 4) := zD (i := 0) bO rfl
 have cO1 : W0.cell? ⟨w.heap.size + 1 + 1 + 1 + 1 + 1 + 1 + 1 + 1 + 1, 1, none⟩ = some (.slice none 0 0) := zD (i := 1) bO rfl
 have cC0 : W0.cell? ⟨w.heap.size + 1 + 1 + 1 + 1 + 1 + 1 + 1 + 1 + 1 + 1, 0, none⟩ = some (.int .i64 5) := zD (i := 0) bC rfl
 have cC1 : W0.cell? ⟨w.heap.size + 1 + 1 + 1 + 1 + 1 + 1 + 1 + 1 + 1 + 1, 1, none⟩ = some (.slice none 0 0) := zD (i := 1) bC rfl
 have lT := zC bT
 have lN := zC bN
 have lX := zC bX
 have lO := zC bO
 have lC := zC bC
 have l0 := zC b0
 have HB0 := Lib.hid hB0
 have HS0 := Lib.hid hs0
 clear b0 bT bN bX bO bC hB0 hs0
 by_cases o0 : n.op = [105, 110, 116]
 · have e0 : (n.op == [105, 110, 116]) = true := by simp [o0]
   have HFE : Hid (zS n = [[mkT 2]]) := Lib.hid (by rw [zS, if_pos o0])
   clear o0
   go_wp2_with (fail)
   refine bodyPost_ret (v := .slice (some ⟨W0.heap.size + 1, 0, none⟩) 1 1) (by simp [results, Tryz.results63, go_sem]) rfl ?_
   rw [HFE.out]
   exact fin1 [2] HB0.out _ rfl
 have f0 : (n.op == [105, 110, 116]) = false := by simp [o0]
 by_cases o1 : n.op = [116, 101, 120, 116, 95, 111, 102]
 · have e1 : (n.op == [116, 101, 120, 116, 95, 111, 102]) = true := by simp [o1]
   have HFE : Hid (zS n = [[mkT 3]]) := Lib.hid (by rw [zS, if_neg o0, if_pos o1])
   clear o0 o1
   go_wp2_with (fail)
   refine bodyPost_ret (v := .slice (some ⟨W0.heap.size + 1, 0, none⟩) 1 1) (by simp [results, Tryz.results63, go_sem]) rfl ?_
   rw [HFE.out]
   exact fin1 [3] HB0.out _ rfl
 have f1 : (n.op == [116, 101, 120, 116, 95, 111, 102]) = false := by simp [o1]
 by_cases o2 : n.op = [116, 114, 117, 101]
 · have e2 : (n.op == [116, 114, 117, 101]) = true := by simp [o2]
   have HFE : Hid (zS n = [[mkT 1]]) := Lib.hid (by rw [zS, if_neg o0, if_neg o1, if_pos o2])
   clear o0 o1 o2
   go_wp2_with (fail)
   refine bodyPost_ret (v := .slice (some ⟨W0.heap.size + 1, 0, none⟩) 1 1) (by simp [results, Tryz.results63, go_sem]) rfl ?_
   rw [HFE.out]
   exact fin1 [1] HB0.out _ rfl
 have f2 : (n.op == [116, 114, 117, 101]) = false := by simp [o2]
 by_cases o3 : n.op = [102, 97, 108, 115, 101]
 · have e3 : (n.op == [102, 97, 108, 115, 101]) = true := by simp [o3]
   have HFE : Hid (zS n = [[mkT 1]]) := Lib.hid (by rw [zS, if_neg o0, if_neg o1, if_neg o2, if_pos o3])
   clear o0 o1 o2 o3
   go_wp2_with (fail)
   refine bodyPost_ret (v := .slice (some ⟨W0.heap.size + 1, 0, none⟩) 1 1) (by simp [results, Tryz.results63, go_sem]) rfl ?_
   rw [HFE.out]
   exact fin1 [1] HB0.out _ rfl
 have f3 : (n.op == [102, 97, 108, 115, 101]) = false := by simp [o3]
 by_cases o4 : n.op = [97, 100, 100]
 · have e4 : (n.op == [97, 100, 100]) = true := by simp [o4]
   have HFE : Hid (zS n = [[mkT 2, mkT 2, mkT 2], [mkT 5, mkT 5, mkT 5]]) := Lib.hid (by rw [zS, if_neg o0, if_neg o1, if_neg o2, if_neg o3, if_pos o4])
   clear o0 o1 o2 o3 o4
   go_wp2_with (fail)
   refine bodyPost_ret (v := .slice (some ⟨W0.heap.size + 1 + 1, 0, none⟩) 2 2) (by simp [results, Tryz.results63, go_sem]) rfl ?_
   rw [HFE.out]
   exact fin2 [2, 2, 2] [5, 5, 5] HB0.out _ rfl
 have f4 : (n.op == [97, 100, 100]) = false := by simp [o4]
 by_cases o5 : n.op = [115, 117, 98]
 · have e5 : (n.op == [115, 117, 98]) = true := by simp [o5]
   have HFE : Hid (zS n = [[mkT 2, mkT 2, mkT 2], [mkT 5, mkT 5, mkT 5]]) := Lib.hid (by rw [zS, if_neg o0, if_neg o1, if_neg o2, if_neg o3, if_neg o4, if_pos o5])
   clear o0 o1 o2 o3 o4 o5
   go_wp2_with (fail)
   refine bodyPost_ret (v := .slice (some ⟨W0.heap.size + 1 + 1, 0, none⟩) 2 2) (by simp [results, Tryz.results63, go_sem]) rfl ?_
   rw [HFE.out]
   exact fin2 [2, 2, 2] [5, 5, 5] HB0.out _ rfl
 have f5 : (n.op == [115, 117, 98]) = false := by simp [o5]
 by_cases o6 : n.op = [109, 117, 108]
 · have e6 : (n.op == [109, 117, 108]) = true := by simp [o6]
   have HFE : Hid (zS n = [[mkT 2, mkT 2, mkT 2], [mkT 5, mkT 5, mkT 5]]) := Lib.hid (by rw [zS, if_neg o0, if_neg o1, if_neg o2, if_neg o3, if_neg o4, if_neg o5, if_pos o6])
   clear o0 o1 o2 o3 o4 o5 o6
   go_wp2_with (fail)
   refine bodyPost_ret (v := .slice (some ⟨W0.heap.size + 1 + 1, 0, none⟩) 2 2) (by simp [results, Tryz.results63, go_sem]) rfl ?_
   rw [HFE.out]
   exact fin2 [2, 2, 2] [5, 5, 5] HB0.out _ rfl
 have f6 : (n.op == [109, 117, 108]) = false := by simp [o6]
 by_cases o7 : n.op = [110, 101, 103]
 · have e7 : (n.op == [110, 101, 103]) = true := by simp [o7]
   have HFE : Hid (zS n = [[mkT 2, mkT 2], [mkT 5, mkT 5]]) := Lib.hid (by rw [zS, if_neg o0, if_neg o1, if_neg o2, if_neg o3, if_neg o4, if_neg o5, if_neg o6, if_pos o7])
   clear o0 o1 o2 o3 o4 o5 o6 o7
   go_wp2_with (fail)
   refine bodyPost_ret (v := .slice (some ⟨W0.heap.size + 1 + 1, 0, none⟩) 2 2) (by simp [results, Tryz.results63, go_sem]) rfl ?_
   rw [HFE.out]
   exact fin2 [2, 2] [5, 5] HB0.out _ rfl
 have f7 : (n.op == [110, 101, 103]) = false := by simp [o7]
 by_cases o8 : n.op = [100, 105, 118]
 · have e8 : (n.op == [100, 105, 118]) = true := by simp [o8]
   have HFE : Hid (zS n = [[mkT 2, mkT 2, mkT 2]]) := Lib.hid (by rw [zS, if_neg o0, if_neg o1, if_neg o2, if_neg o3, if_neg o4, if_neg o5, if_neg o6, if_neg o7, if_pos o8])
   clear o0 o1 o2 o3 o4 o5 o6 o7 o8
   go_wp2_with (fail)
   refine bodyPost_ret (v := .slice (some ⟨W0.heap.size + 1, 0, none⟩) 1 1) (by simp [results, Tryz.results63, go_sem]) rfl ?_
   rw [HFE.out]
   exact fin1 [2, 2, 2] HB0.out _ rfl
 have f8 : (n.op == [100, 105, 118]) = false := by simp [o8]
 by_cases o9 : n.op = [109, 111, 100]
 · have e9 : (n.op == [109, 111, 100]) = true := by simp [o9]
   have HFE : Hid (zS n = [[mkT 2, mkT 2, mkT 2]]) := Lib.hid (by rw [zS, if_neg o0, if_neg o1, if_neg o2, if_neg o3, if_neg o4, if_neg o5, if_neg o6, if_neg o7, if_neg o8, if_pos o9])
   clear o0 o1 o2 o3 o4 o5 o6 o7 o8 o9
   go_wp2_with (fail)
   refine bodyPost_ret (v := .slice (some ⟨W0.heap.size + 1, 0, none⟩) 1 1) (by simp [results, Tryz.results63, go_sem]) rfl ?_
   rw [HFE.out]
   exact fin1 [2, 2, 2] HB0.out _ rfl
 have f9 : (n.op == [109, 111, 100]) = false := by simp [o9]
 by_cases o10 : n.op = [97, 110, 100]
 · have e10 : (n.op == [97, 110, 100]) = true := by simp [o10]
   have HFE : Hid (zS n = [[mkT 1, mkT 1, mkT 1]]) := Lib.hid (by rw [zS, if_neg o0, if_neg o1, if_neg o2, if_neg o3, if_neg o4, if_neg o5, if_neg o6, if_neg o7, if_neg o8, if_neg o9, if_pos o10])
   clear o0 o1 o2 o3 o4 o5 o6 o7 o8 o9 o10
   go_wp2_with (fail)
   refine bodyPost_ret (v := .slice (some ⟨W0.heap.size + 1, 0, none⟩) 1 1) (by simp [results, Tryz.results63, go_sem]) rfl ?_
   rw [HFE.out]
   exact fin1 [1, 1, 1] HB0.out _ rfl
 have f10 : (n.op == [97, 110, 100]) = false := by simp [o10]
 by_cases o11 : n.op = [111, 114]
 · have e11 : (n.op == [111, 114]) = true := by simp [o11]
   have HFE : Hid (zS n = [[mkT 1, mkT 1, mkT 1]]) := Lib.hid (by rw [zS, if_neg o0, if_neg o1, if_neg o2, if_neg o3, if_neg o4, if_neg o5, if_neg o6, if_neg o7, if_neg o8, if_neg o9, if_neg o10, if_pos o11])
   clear o0 o1 o2 o3 o4 o5 o6 o7 o8 o9 o10 o11
   go_wp2_with (fail)
   refine bodyPost_ret (v := .slice (some ⟨W0.heap.size + 1, 0, none⟩) 1 1) (by simp [results, Tryz.results63, go_sem]) rfl ?_
   rw [HFE.out]
   exact fin1 [1, 1, 1] HB0.out _ rfl
 have f11 : (n.op == [111, 114]) = false := by simp [o11]
 by_cases o12 : n.op = [110, 111, 116]
 · have e12 : (n.op == [110, 111, 116]) = true := by simp [o12]
   have HFE : Hid (zS n = [[mkT 1, mkT 1]]) := Lib.hid (by rw [zS, if_neg o0, if_neg o1, if_neg o2, if_neg o3, if_neg o4, if_neg o5, if_neg o6, if_neg o7, if_neg o8, if_neg o9, if_neg o10, if_neg o11, if_pos o12])
   clear o0 o1 o2 o3 o4 o5 o6 o7 o8 o9 o10 o11 o12
   go_wp2_with (fail)
   refine bodyPost_ret (v := .slice (some ⟨W0.heap.size + 1, 0, none⟩) 1 1) (by simp [results, Tryz.results63, go_sem]) rfl ?_
   rw [HFE.out]
   exact fin1 [1, 1] HB0.out _ rfl
 have f12 : (n.op == [110, 111, 116]) = false := by simp [o12]
 by_cases o13 : n.op = [114, 97, 110, 103, 101]
 · have e13 : (n.op == [114, 97, 110, 103, 101]) = true := by simp [o13]
   have HFE : Hid (zS n = [[mkT 2, .mk 7 [mkT 2]]]) := Lib.hid (by rw [zS, if_neg o0, if_neg o1, if_neg o2, if_neg o3, if_neg o4, if_neg o5, if_neg o6, if_neg o7, if_neg o8, if_neg o9, if_neg o10, if_neg o11, if_neg o12, if_pos o13])
   clear o0 o1 o2 o3 o4 o5 o6 o7 o8 o9 o10 o11 o12 o13
   go_upto_region 26 with (fail)
   go_region_held3 (fun w' => w'.cell? ⟨w.heap.size + 1 + 1 + 1 + 1 + 1, 0, none⟩ = some (.int .i64 2) ∧ w'.cell? ⟨w.heap.size + 1 + 1 + 1 + 1 + 1, 1, none⟩ = some (.slice none 0 0))
    ((refine ⟨?_, ?_⟩ <;> (repeat' (first | with_reducible assumption | with_reducible refine zX ?_ | with_reducible refine zW ?_))))
    (first
      | (go_at_call 96; refine (ofX _ _ _ _ _).mono ?_; rintro e wa ⟨rfl, rfl⟩; have y0 := zW (o := .cells #[.int .i64 7, .slice (some ⟨W0.heap.size, 0, none⟩) 1 1] 34) (zX (zW (o := .cells #[.int .i64 2, .slice none 0 0] 34) cN0)); have y1 := zW (o := .cells #[.int .i64 7, .slice (some ⟨W0.heap.size, 0, none⟩) 1 1] 34) (zX (zW (o := .cells #[.int .i64 2, .slice none 0 0] 34) cN1)))
      | fail)
   go_wp2_with (fail)
   refine bodyPost_ret (v := .slice (some ⟨W0.heap.size + 1 + 1 + 1, 0, none⟩) 1 1) (by simp [results, Tryz.results63, go_sem]) rfl ?_
   rw [HFE.out]
   exact finR HB0.out _ rfl
 have f13 : (n.op == [114, 97, 110, 103, 101]) = false := by simp [o13]
 by_cases o14 : n.op = [106, 111, 105, 110]
 · have e14 : (n.op == [106, 111, 105, 110]) = true := by simp [o14]
   have HFE : Hid (zS n = [[mkT 3, mkT 3, mkT 3]]) := Lib.hid (by rw [zS, if_neg o0, if_neg o1, if_neg o2, if_neg o3, if_neg o4, if_neg o5, if_neg o6, if_neg o7, if_neg o8, if_neg o9, if_neg o10, if_neg o11, if_neg o12, if_neg o13, if_pos o14])
   clear o0 o1 o2 o3 o4 o5 o6 o7 o8 o9 o10 o11 o12 o13 o14
   go_wp2_with (fail)
   refine bodyPost_ret (v := .slice (some ⟨W0.heap.size + 1, 0, none⟩) 1 1) (by simp [results, Tryz.results63, go_sem]) rfl ?_
   rw [HFE.out]
   exact fin1 [3, 3, 3] HB0.out _ rfl
 have f14 : (n.op == [106, 111, 105, 110]) = false := by simp [o14]
 by_cases o15 : n.op = [115, 105, 122, 101]
 · have e15 : (n.op == [115, 105, 122, 101]) = true := by simp [o15]
   have HFE : Hid (zS n = [[mkT 3, mkT 2], [mkT 4, mkT 2]]) := Lib.hid (by rw [zS, if_neg o0, if_neg o1, if_neg o2, if_neg o3, if_neg o4, if_neg o5, if_neg o6, if_neg o7, if_neg o8, if_neg o9, if_neg o10, if_neg o11, if_neg o12, if_neg o13, if_neg o14, if_pos o15])
   clear o0 o1 o2 o3 o4 o5 o6 o7 o8 o9 o10 o11 o12 o13 o14 o15
   go_wp2_with (fail)
   refine bodyPost_ret (v := .slice (some ⟨W0.heap.size + 1 + 1, 0, none⟩) 2 2) (by simp [results, Tryz.results63, go_sem]) rfl ?_
   rw [HFE.out]
   exact fin2 [3, 2] [4, 2] HB0.out _ rfl
 have f15 : (n.op == [115, 105, 122, 101]) = false := by simp [o15]
 by_cases o16 : n.op = [99, 117, 116]
 · have e16 : (n.op == [99, 117, 116]) = true := by simp [o16]
   have HFE : Hid (zS n = [[mkT 3, mkT 2, mkT 2, mkT 3], [mkT 4, mkT 2, mkT 2, mkT 4]]) := Lib.hid (by rw [zS, if_neg o0, if_neg o1, if_neg o2, if_neg o3, if_neg o4, if_neg o5, if_neg o6, if_neg o7, if_neg o8, if_neg o9, if_neg o10, if_neg o11, if_neg o12, if_neg o13, if_neg o14, if_neg o15, if_pos o16])
   clear o0 o1 o2 o3 o4 o5 o6 o7 o8 o9 o10 o11 o12 o13 o14 o15 o16
   go_wp2_with (fail)
   refine bodyPost_ret (v := .slice (some ⟨W0.heap.size + 1 + 1, 0, none⟩) 2 2) (by simp [results, Tryz.results63, go_sem]) rfl ?_
   rw [HFE.out]
   exact fin2 [3, 2, 2, 3] [4, 2, 2, 4] HB0.out _ rfl
 have f16 : (n.op == [99, 117, 116]) = false := by simp [o16]
 by_cases o17 : n.op = [98, 121, 116, 101, 115]
 · have e17 : (n.op == [98, 121, 116, 101, 115]) = true := by simp [o17]
   have HFE : Hid (zS n = [[mkT 3, mkT 4]]) := Lib.hid (by rw [zS, if_neg o0, if_neg o1, if_neg o2, if_neg o3, if_neg o4, if_neg o5, if_neg o6, if_neg o7, if_neg o8, if_neg o9, if_neg o10, if_neg o11, if_neg o12, if_neg o13, if_neg o14, if_neg o15, if_neg o16, if_pos o17])
   clear o0 o1 o2 o3 o4 o5 o6 o7 o8 o9 o10 o11 o12 o13 o14 o15 o16 o17
   go_wp2_with (fail)
   refine bodyPost_ret (v := .slice (some ⟨W0.heap.size + 1, 0, none⟩) 1 1) (by simp [results, Tryz.results63, go_sem]) rfl ?_
   rw [HFE.out]
   exact fin1 [3, 4] HB0.out _ rfl
 have f17 : (n.op == [98, 121, 116, 101, 115]) = false := by simp [o17]
 by_cases o18 : n.op = [116, 101, 120, 116]
 · have e18 : (n.op == [116, 101, 120, 116]) = true := by simp [o18]
   have HFE : Hid (zS n = [[mkT 4, mkT 3]]) := Lib.hid (by rw [zS, if_neg o0, if_neg o1, if_neg o2, if_neg o3, if_neg o4, if_neg o5, if_neg o6, if_neg o7, if_neg o8, if_neg o9, if_neg o10, if_neg o11, if_neg o12, if_neg o13, if_neg o14, if_neg o15, if_neg o16, if_neg o17, if_pos o18])
   clear o0 o1 o2 o3 o4 o5 o6 o7 o8 o9 o10 o11 o12 o13 o14 o15 o16 o17 o18
   go_wp2_with (fail)
   refine bodyPost_ret (v := .slice (some ⟨W0.heap.size + 1, 0, none⟩) 1 1) (by simp [results, Tryz.results63, go_sem]) rfl ?_
   rw [HFE.out]
   exact fin1 [4, 3] HB0.out _ rfl
 have f18 : (n.op == [116, 101, 120, 116]) = false := by simp [o18]
 by_cases o19 : n.op = [115, 104, 111, 119]
 · have e19 : (n.op == [115, 104, 111, 119]) = true := by simp [o19]
   have HFE : Hid (zS n = [[mkT 2, mkT 3]]) := Lib.hid (by rw [zS, if_neg o0, if_neg o1, if_neg o2, if_neg o3, if_neg o4, if_neg o5, if_neg o6, if_neg o7, if_neg o8, if_neg o9, if_neg o10, if_neg o11, if_neg o12, if_neg o13, if_neg o14, if_neg o15, if_neg o16, if_neg o17, if_neg o18, if_pos o19])
   clear o0 o1 o2 o3 o4 o5 o6 o7 o8 o9 o10 o11 o12 o13 o14 o15 o16 o17 o18 o19
   go_wp2_with (fail)
   refine bodyPost_ret (v := .slice (some ⟨W0.heap.size + 1, 0, none⟩) 1 1) (by simp [results, Tryz.results63, go_sem]) rfl ?_
   rw [HFE.out]
   exact fin1 [2, 3] HB0.out _ rfl
 have f19 : (n.op == [115, 104, 111, 119]) = false := by simp [o19]
 by_cases o20 : n.op = [112, 111, 105, 110, 116]
 · have e20 : (n.op == [112, 111, 105, 110, 116]) = true := by simp [o20]
   have HFE : Hid (zS n = [[mkT 2, mkT 2, mkT 5]]) := Lib.hid (by rw [zS, if_neg o0, if_neg o1, if_neg o2, if_neg o3, if_neg o4, if_neg o5, if_neg o6, if_neg o7, if_neg o8, if_neg o9, if_neg o10, if_neg o11, if_neg o12, if_neg o13, if_neg o14, if_neg o15, if_neg o16, if_neg o17, if_neg o18, if_neg o19, if_pos o20])
   clear o0 o1 o2 o3 o4 o5 o6 o7 o8 o9 o10 o11 o12 o13 o14 o15 o16 o17 o18 o19 o20
   go_wp2_with (fail)
   refine bodyPost_ret (v := .slice (some ⟨W0.heap.size + 1, 0, none⟩) 1 1) (by simp [results, Tryz.results63, go_sem]) rfl ?_
   rw [HFE.out]
   exact fin1 [2, 2, 5] HB0.out _ rfl
 have f20 : (n.op == [112, 111, 105, 110, 116]) = false := by simp [o20]
 by_cases o21 : n.op = [114, 101]
 · have e21 : (n.op == [114, 101]) = true := by simp [o21]
   have HFE : Hid (zS n = [[mkT 5, mkT 2]]) := Lib.hid (by rw [zS, if_neg o0, if_neg o1, if_neg o2, if_neg o3, if_neg o4, if_neg o5, if_neg o6, if_neg o7, if_neg o8, if_neg o9, if_neg o10, if_neg o11, if_neg o12, if_neg o13, if_neg o14, if_neg o15, if_neg o16, if_neg o17, if_neg o18, if_neg o19, if_neg o20, if_pos o21])
   clear o0 o1 o2 o3 o4 o5 o6 o7 o8 o9 o10 o11 o12 o13 o14 o15 o16 o17 o18 o19 o20 o21
   go_wp2_with (fail)
   refine bodyPost_ret (v := .slice (some ⟨W0.heap.size + 1, 0, none⟩) 1 1) (by simp [results, Tryz.results63, go_sem]) rfl ?_
   rw [HFE.out]
   exact fin1 [5, 2] HB0.out _ rfl
 have f21 : (n.op == [114, 101]) = false := by simp [o21]
 by_cases o22 : n.op = [105, 109]
 · have e22 : (n.op == [105, 109]) = true := by simp [o22]
   have HFE : Hid (zS n = [[mkT 5, mkT 2]]) := Lib.hid (by rw [zS, if_neg o0, if_neg o1, if_neg o2, if_neg o3, if_neg o4, if_neg o5, if_neg o6, if_neg o7, if_neg o8, if_neg o9, if_neg o10, if_neg o11, if_neg o12, if_neg o13, if_neg o14, if_neg o15, if_neg o16, if_neg o17, if_neg o18, if_neg o19, if_neg o20, if_neg o21, if_pos o22])
   clear o0 o1 o2 o3 o4 o5 o6 o7 o8 o9 o10 o11 o12 o13 o14 o15 o16 o17 o18 o19 o20 o21 o22
   go_wp2_with (fail)
   refine bodyPost_ret (v := .slice (some ⟨W0.heap.size + 1, 0, none⟩) 1 1) (by simp [results, Tryz.results63, go_sem]) rfl ?_
   rw [HFE.out]
   exact fin1 [5, 2] HB0.out _ rfl
 have f22 : (n.op == [105, 109]) = false := by simp [o22]
 by_cases o23 : n.op = [99, 111, 110, 106]
 · have e23 : (n.op == [99, 111, 110, 106]) = true := by simp [o23]
   have HFE : Hid (zS n = [[mkT 5, mkT 5]]) := Lib.hid (by rw [zS, if_neg o0, if_neg o1, if_neg o2, if_neg o3, if_neg o4, if_neg o5, if_neg o6, if_neg o7, if_neg o8, if_neg o9, if_neg o10, if_neg o11, if_neg o12, if_neg o13, if_neg o14, if_neg o15, if_neg o16, if_neg o17, if_neg o18, if_neg o19, if_neg o20, if_neg o21, if_neg o22, if_pos o23])
   clear o0 o1 o2 o3 o4 o5 o6 o7 o8 o9 o10 o11 o12 o13 o14 o15 o16 o17 o18 o19 o20 o21 o22 o23
   go_wp2_with (fail)
   refine bodyPost_ret (v := .slice (some ⟨W0.heap.size + 1, 0, none⟩) 1 1) (by simp [results, Tryz.results63, go_sem]) rfl ?_
   rw [HFE.out]
   exact fin1 [5, 5] HB0.out _ rfl
 have f23 : (n.op == [99, 111, 110, 106]) = false := by simp [o23]
 have HFE : Hid (zS n = [yM n.op n.ty n.kids.length]) := Lib.hid (by rw [zS, if_neg o0, if_neg o1, if_neg o2, if_neg o3, if_neg o4, if_neg o5, if_neg o6, if_neg o7, if_neg o8, if_neg o9, if_neg o10, if_neg o11, if_neg o12, if_neg o13, if_neg o14, if_neg o15, if_neg o16, if_neg o17, if_neg o18, if_neg o19, if_neg o20, if_neg o21, if_neg o22, if_neg o23])
 clear o0 o1 o2 o3 o4 o5 o6 o7 o8 o9 o10 o11 o12 o13 o14 o15 o16 o17 o18 o19 o20 o21 o22 o23
 have HF := Lib.hid (formOfAny_any S n dn _ W0 (HN.out.below HB0.out) hk64'.out)
 go_wp2_with (go_at_call 100; (with_reducible refine HF.out.mono ?_); rintro e w3 ⟨⟨FA, fk, D, rfl, hfk, hfa⟩, hb3⟩)
 refine bodyPost_ret (v := .slice (some ⟨w3.heap.size, 0, none⟩) 1 1) (by simp [results, Tryz.results63, go_sem]) rfl ?_
 rw [HFE.out]
 have hs3 := HB0.out.size
 have hs4 := hb3.size
 have hF := heap_alloc_new w3 (.cells #[.slice FA (yM n.op n.ty n.kids.length).length fk] 168)
 refine ⟨⟨_, 1, D, rfl, fun _ => ⟨w3.heap.size, 0, rfl, .inr ⟨by omega, by simp⟩, fun j f hf => ?_⟩⟩, (HB0.out.trans (hb3.mono hs3)).alloc (by omega) _⟩
 cases j with
 | zero =>
   obtain rfl : yM n.op n.ty n.kids.length = f := Option.some.inj hf
   refine ⟨FA, fk, zD (i := 0) hF rfl, hfk, args_mv hfa ?_⟩
   intro b hb
   refine ⟨?_, ?_⟩
   · rcases hb with h | ⟨h1, h2⟩
     · exact .inl h
     · exact .inr ⟨by omega, by simp <;> omega⟩
   · exact Below.heap_alloc w3 _ b (by
       rcases hb with h | ⟨h1, h2⟩
       · have := hSw b h; omega
       · exact h2)
 | succ j => cases hf
def FOk (n : Nd) : Prop := n.kids.length ≤ 64 ∧ ((n.op = [110, 105, 108] ∨ n.op = [110, 111, 110, 101]) → Dp 8 n.ty)
theorem dp_mk {r : Nat} {k : Int} {l : List Ty} (hl : l.length ≤ 64) (h : ∀ a ∈ l, Dp r a) : Dp (r + 1) (.mk k l) := ⟨hl, h⟩
theorem dp_0 (r : Nat) (k : Int) : Dp (r + 1) (.mk k []) := dp_mk (by simp) (by simp)
theorem formOk_of {f : List Ty} (h : f ≠ []) (hl : f.length ≤ 100) (hd : ∀ x ∈ f, Dp 9 x) : FormOk f :=
 ⟨f.dropLast, f.getLast h, (List.dropLast_concat_getLast h).symm, by rw [List.length_dropLast]; omega, fun x hx => hd x (List.dropLast_subset _ hx), hd _ (List.getLast_mem h)⟩
theorem ite_ok {α : Type} {Q : α → Prop} {p : Prop} [Decidable p] {a b : α} (h1 : p → Q a) (h2 : ¬ p → Q b) : Q (if p then a else b) := by
 by_cases h : p
 · rw [if_pos h]; exact h1 h
 · rw [if_neg h]; exact h2 h
def FsOk (l : List (List Ty)) : Prop := (∀ f ∈ l, FormOk f) ∧ l.length ≤ 10
theorem formA_ok {op : List UInt8} {ty : Ty} {m : Nat} (hm : m ≤ 64) (hty : (op = [110, 105, 108] ∨ op = [110, 111, 110, 101]) → Dp 8 ty) : FormOk (yM op ty m) := by
 have h1 : Dp 9 mA := dp_0 _ _
 have h2 : Dp 9 mB := dp_0 _ _
 have h3 : Dp 9 tT := dp_0 _ _
 have h4 : Dp 9 tN := dp_0 _ _
 have h1' : Dp 8 mA := dp_0 _ _
 have h2' : Dp 8 mB := dp_0 _ _
 have h5 : Dp 9 tP := dp_mk (by simp) (by simp; exact ⟨h1', h2'⟩)
 have h6 : Dp 9 tL := dp_mk (by simp) (by simp; exact h1')
 have h7 : Dp 9 tO := dp_mk (by simp) (by simp; exact h1')
 unfold yM
 refine ite_ok (Q := FormOk) (fun h => formOk_of (by simp) (by simp) (by simp; exact dp_mk (by simp) (by simp; exact hty (.inl h)))) (fun _ => ?_)
 refine ite_ok (Q := FormOk) (fun h => formOk_of (by simp) (by simp) (by simp; exact dp_mk (by simp) (by simp; exact hty (.inr h)))) (fun _ => ?_)
 repeat' (refine ite_ok (Q := FormOk) (fun _ => ?_) (fun _ => ?_))
 all_goals first
  | (refine formOk_of (by simp) (by simp <;> omega) ?_; (simp [h1, h2, h3, h4, h5, h6, h7]; done))
  | (refine formOk_of (by simp) (by simp <;> omega) ?_
     intro x hx
     rcases List.mem_append.1 hx with hx | hx
     · rw [List.eq_of_mem_replicate hx]; exact h1
     · rw [List.mem_singleton] at hx; subst hx; exact h6)
theorem formsT_ok {n : Nd} (h : FOk n) : (∀ f ∈ zS n, FormOk f) ∧ (zS n).length ≤ 10 := by
 have hk : ∀ k, Dp 9 (mkT k) := fun k => dp_0 _ _
 have hk8 : ∀ k, Dp 8 (mkT k) := fun k => dp_0 _ _
 have hr : Dp 9 (Ty.mk 7 [mkT 2]) := dp_mk (by simp) (by simp; exact hk8 2)
 have h1 : ∀ {a : List Ty}, a ≠ [] → a.length ≤ 100 → (∀ x ∈ a, Dp 9 x) → FsOk [a] := fun ha hl hd => ⟨fun f hf => by rw [List.mem_singleton] at hf; subst hf; exact formOk_of ha hl hd, by simp⟩
 have h2 : ∀ {a b : List Ty}, a ≠ [] → a.length ≤ 100 → (∀ x ∈ a, Dp 9 x) → b ≠ [] → b.length ≤ 100 → (∀ x ∈ b, Dp 9 x) → FsOk [a, b] := fun ha hl hd hb hl' hd' => ⟨fun f hf => by
  rcases List.mem_cons.1 hf with rfl | hf
  · exact formOk_of ha hl hd
  · rw [List.mem_singleton] at hf; subst hf; exact formOk_of hb hl' hd', by simp⟩
 show FsOk (zS n)
 unfold zS
 repeat' (refine ite_ok (Q := FsOk) (fun _ => ?_) (fun _ => ?_))
 all_goals first
  | (refine h2 ?_ ?_ ?_ ?_ ?_ ?_ <;> (simp [hk]; done))
  | (refine h1 ?_ ?_ ?_ <;> (simp [hk, hr]; done))
  | exact ⟨fun f hf => by rw [List.mem_singleton] at hf; subst hf; exact formA_ok h.1 h.2, by simp⟩
theorem formsC : FormsC zS FOk := ⟨fun _ h => formsT_ok h, fun S dn nv n w h hn hS => (formsOf_any S n dn nv w hn h.1 hS).mono fun _ _ ⟨⟨FA, fk, D, he, hf⟩, hb⟩ => ⟨⟨FA, fk, D, he, hf⟩, hb⟩⟩
