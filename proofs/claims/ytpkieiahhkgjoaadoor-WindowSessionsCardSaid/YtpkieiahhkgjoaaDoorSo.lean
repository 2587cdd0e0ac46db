/-
Sort of the program.
-/
import Derived.Test.YtpkieiahhkgjoaaDoorGp
import Derived.Test.YtpkieiahhkgjoaaDoorVs
import Derived.Test.YtpkieiahhkgjoaaDoorShs
set_option linter.unusedVariables false
namespace Go.Proofs.YtpkieiahhkgjoaaDoor
open Go.RowKit
open Go.Sort (grow putRowK HoldsK holdsK_putRowK holdsK_ahead holdsK_grow size_putRow size_flatK SWO PermIn SortedIn)

theorem ltO (x y : Wn) : ltOf ordI x y = lsB x y := by
  unfold ltOf lsB
  rw [decide_eq_decide]
  exact ordI_lt x y

theorem swoW : SWO (ltOf ordI) where
  irrefl x := by rw [ltO]; simp [lsB, Ls]
  trans x y z h1 h2 := by rw [ltO] at *; unfold lsB at *; simp only [decide_eq_true_eq] at *; unfold Ls at *; omega
  ntrans x y z h1 h2 := by rw [ltO] at *; unfold lsB at *; simp only [decide_eq_false_iff_not] at *; unfold Ls at *; omega

theorem cmpLaysW (blk off size : Nat) (w : World) : CmpLays Tryd.prog 17 #[] encW 2 ordI blk off size w :=
  fun _ _ _ _ x y => order_any x y _

theorem sorted_eq {l : List Wn} {d' : Array Wn} (hp : PermIn 0 l.toArray.size l.toArray d') (hs : SortedIn (ltOf ordI) 0 l.toArray.size d') : d' = (srt l).toArray := by
  obtain ⟨h1, h2, h3⟩ := hp
  have hz : d'.size = l.length := by simpa using h1
  have e1 : (d'.extract 0 l.toArray.size).toList = d'.toList := by simp; exact List.take_of_length_le (by simp; omega)
  have e2 : (l.toArray.extract 0 l.toArray.size).toList = l := by simp
  rw [e1, e2] at h3
  have : d'.toList = srt l := srt_unique h3 (by
    rw [List.pairwise_iff_getElem]
    intro i j hi hj hij
    have hi' : i < d'.size := by simpa using hi
    have hj' : j < d'.size := by simpa using hj
    have := hs i j (Nat.zero_le _) hij (by simpa [hz] using hj')
    rw [ltO, getElem!_pos d' i hi', getElem!_pos d' j hj'] at this
    unfold leW
    simpa using this)
  exact Array.toList_inj.1 (by simpa using this)

set_option maxHeartbeats 1000000 in
theorem sortFunc_any (g cap B : Nat) (l : List Wn) (w : World) (h : w.ownsRow B 33 2 (.slice (some ⟨g, 0, none⟩) l.length cap) l.length (flat l)) (hl : l.length ≤ 2000000) :
    Calls Tryd.prog 16 #[.slice (some ⟨g, 0, none⟩) l.length cap, .func (.func 17) #[] #[]] w fun e w' => e = .returned (.tuple #[]) ∧ WsAt w' B (.slice (some ⟨g, 0, none⟩) l.length cap) (srt l) ∧ Below B w w' := by
  have eg : ∀ args w, (callFunc 17 args).run Tryd.prog w = .ok (.enter 17 args) w := enters_of Tryd.func17 (by kernel_rfl) rfl
  have hH := holdsK_own h
  obtain ⟨hgB, hgl⟩ : B ≤ g ∧ g < w.heap.size := h.lt g rfl
  have hcap : l.length ≤ cap := by
    rcases h.2 with ⟨h0, _⟩ | ⟨g', cap', cur, h0, _, _, hn, _⟩
    · cases h0
    · injection h0 with _ _ h3; omega
  have hcon := AnyQ.slices_SortFunc Tryd.sortW 2 Tryd.isAgg33 Tryd.sizeOf33 encW encW_len encW_one ordI swoW 17 #[] g 0 cap l.toArray w eg (cmpLaysW g 0 _ w) hH hgl (by simp; omega)
  have hs0 : l.toArray.size = l.length := by simp
  refine Calls.mono (show Calls Tryd.prog 16 #[.slice (some ⟨g, 0, none⟩) l.length cap, .func (.func 17) #[] #[]] w _ from hcon) ?_
  rintro e w' ⟨he, d', n, os, hp, hs, hw⟩
  have hd := sorted_eq hp hs
  subst hd
  have hsl : (srt l).length = l.length := (srt_perm l).length_eq
  refine ⟨he, ?_, ?_⟩
  · have h2 : HoldsK encW 2 w' g 0 (srt l).toArray := by
      rw [hw]
      unfold sortWorldK
      refine holdsK_grow _ _ _ _ _ _ _ (by show g < (Go.Sort.putRow id _ _ _ _).heap.size; rw [size_putRow]; exact hgl) ?_
      exact holdsK_putRowK encW 2 (Go.Sort.ahead w n) g 0 _ _ (holdsK_ahead encW 2 w n g 0 _ hH) (by simp [hsl])
    have h3 := ws_of_holdsK (c := cap) h2 hgB (by rw [hw]; unfold sortWorldK; rw [Go.Sort.size_grow]; show g < (Go.Sort.putRow id _ _ _ _).heap.size + _; rw [size_putRow]; show g < w.heap.size + _; omega) (by omega)
    rw [hsl] at h3
    exact h3
  · rw [hw]
    unfold sortWorldK
    have h1 : Below B w (putRowK encW 2 (Go.Sort.ahead w n) g 0 (srt l).toArray) := below_putRowK (Below.refl _ _) hgB
    refine ⟨h1.os, h1.tape, h1.output, ?_, fun k hk => ?_⟩
    · rw [Go.Sort.size_grow]; have := h1.size; omega
    · rw [Go.Sort.heap_grow_old _ _ (by have := h1.size; show k < (Go.Sort.putRow id _ _ _ _).heap.size; rw [size_putRow]; show k < w.heap.size; omega)]
      exact h1.block k hk

end Go.Proofs.YtpkieiahhkgjoaaDoor
