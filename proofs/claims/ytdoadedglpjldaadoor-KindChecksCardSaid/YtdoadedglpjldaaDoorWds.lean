import Derived.Test.YtdoadedglpjldaaDoorMem
import Derived.BigQuiet
import Derived.Deep.QuietTactic
namespace Go.Proofs.YtdoadedglpjldaaDoor
open Go.RowKit

def w1 : Wd := ⟨1, 0, ⟨#[98, 111, 111, 108]⟩⟩
def w2 : Wd := ⟨2, 0, ⟨#[105, 110, 116]⟩⟩
def w3 : Wd := ⟨3, 0, ⟨#[116, 101, 120, 116]⟩⟩
def w4 : Wd := ⟨4, 0, ⟨#[98, 121, 116, 101, 115]⟩⟩
def w5 : Wd := ⟨5, 0, ⟨#[112, 111, 105, 110, 116]⟩⟩
def w6 : Wd := ⟨6, 2, ⟨#[112, 97, 105, 114]⟩⟩
def w7 : Wd := ⟨7, 1, ⟨#[108, 105, 115, 116]⟩⟩
def w9 : Wd := ⟨9, 1, ⟨#[111, 112, 116, 105, 111, 110]⟩⟩
/-- The words of all kinds of types. -/
def words : List Wd := [w1, w2, w3, w4, w5, w6, w7, w9]
/-- The words of types that are at most this deep. -/
def fitW (room : Int) (l : List Wd) : List Wd := l.filter fun x => decide (1 < room) || decide (x.args = 0)

def wordsRow : Array Value := #[.int .i64 1, .int .i64 0, .string ⟨#[98, 111, 111, 108]⟩, .int .i64 2, .int .i64 0, .string ⟨#[105, 110, 116]⟩, .int .i64 3, .int .i64 0, .string ⟨#[116, 101, 120, 116]⟩, .int .i64 4, .int .i64 0, .string ⟨#[98, 121, 116, 101, 115]⟩, .int .i64 5, .int .i64 0, .string ⟨#[112, 111, 105, 110, 116]⟩, .int .i64 6, .int .i64 2, .string ⟨#[112, 97, 105, 114]⟩, .int .i64 7, .int .i64 1, .string ⟨#[108, 105, 115, 116]⟩, .int .i64 9, .int .i64 1, .string ⟨#[111, 112, 116, 105, 111, 110]⟩]
/-- The table of words lies in the package's variable. -/
def Glob (w : World) : Prop := ∃ t fr, w.heap[0]? = some (.cells wordsRow t fr)
theorem Glob.lt {w : World} (h : Glob w) : 0 < w.heap.size := by
  obtain ⟨t, fr, h⟩ := h
  exact (Array.getElem?_eq_some_iff.1 h).1
theorem Glob.kept {w w' : World} (h : Glob w) (hw : w'.heap[0]? = w.heap[0]?) : Glob w' := by
  obtain ⟨t, fr, h⟩ := h
  exact ⟨t, fr, hw.trans h⟩

theorem words_at0 : ∀ w : World, (Instr.index 100 (.agg wordsRow) (.int .i64 ((0 : Nat) : Int))).run Tryd.prog w = .ok (.agg #[.int .i64 w1.kind, .int .i64 w1.args, .string w1.name]) w := fun _ => by kernel_rfl
theorem words_at1 : ∀ w : World, (Instr.index 100 (.agg wordsRow) (.int .i64 ((1 : Nat) : Int))).run Tryd.prog w = .ok (.agg #[.int .i64 w2.kind, .int .i64 w2.args, .string w2.name]) w := fun _ => by kernel_rfl
theorem words_at2 : ∀ w : World, (Instr.index 100 (.agg wordsRow) (.int .i64 ((2 : Nat) : Int))).run Tryd.prog w = .ok (.agg #[.int .i64 w3.kind, .int .i64 w3.args, .string w3.name]) w := fun _ => by kernel_rfl
theorem words_at3 : ∀ w : World, (Instr.index 100 (.agg wordsRow) (.int .i64 ((3 : Nat) : Int))).run Tryd.prog w = .ok (.agg #[.int .i64 w4.kind, .int .i64 w4.args, .string w4.name]) w := fun _ => by kernel_rfl
theorem words_at4 : ∀ w : World, (Instr.index 100 (.agg wordsRow) (.int .i64 ((4 : Nat) : Int))).run Tryd.prog w = .ok (.agg #[.int .i64 w5.kind, .int .i64 w5.args, .string w5.name]) w := fun _ => by kernel_rfl
theorem words_at5 : ∀ w : World, (Instr.index 100 (.agg wordsRow) (.int .i64 ((5 : Nat) : Int))).run Tryd.prog w = .ok (.agg #[.int .i64 w6.kind, .int .i64 w6.args, .string w6.name]) w := fun _ => by kernel_rfl
theorem words_at6 : ∀ w : World, (Instr.index 100 (.agg wordsRow) (.int .i64 ((6 : Nat) : Int))).run Tryd.prog w = .ok (.agg #[.int .i64 w7.kind, .int .i64 w7.args, .string w7.name]) w := fun _ => by kernel_rfl
theorem words_at7 : ∀ w : World, (Instr.index 100 (.agg wordsRow) (.int .i64 ((7 : Nat) : Int))).run Tryd.prog w = .ok (.agg #[.int .i64 w9.kind, .int .i64 w9.args, .string w9.name]) w := fun _ => by kernel_rfl
theorem words_at (k : Nat) (x : Wd) (h : words[k]? = some x) (w : World) :
    (Instr.index 100 (.agg wordsRow) (.int .i64 (k : Int))).run Tryd.prog w = .ok (.agg #[.int .i64 x.kind, .int .i64 x.args, .string x.name]) w := by
  match k, h with
  | 0, h => (obtain rfl : w1 = x := by simpa [words] using h); exact words_at0 w
  | 1, h => (obtain rfl : w2 = x := by simpa [words] using h); exact words_at1 w
  | 2, h => (obtain rfl : w3 = x := by simpa [words] using h); exact words_at2 w
  | 3, h => (obtain rfl : w4 = x := by simpa [words] using h); exact words_at3 w
  | 4, h => (obtain rfl : w5 = x := by simpa [words] using h); exact words_at4 w
  | 5, h => (obtain rfl : w6 = x := by simpa [words] using h); exact words_at5 w
  | 6, h => (obtain rfl : w7 = x := by simpa [words] using h); exact words_at6 w
  | 7, h => (obtain rfl : w9 = x := by simpa [words] using h); exact words_at7 w
  | k + 8, h => simp [words] at h

theorem three_one (a b : Int) (s : ByteArray) : ∀ u ∈ [Value.int .i64 a, Value.int .i64 b, Value.string s], u.oneCell' = true := by
  intro u hu
  simp at hu
  rcases hu with rfl | rfl | rfl <;> rfl

theorem fitW_snoc (n : Int) (l : List Wd) (x : Wd) (h : (decide (1 < n) || decide (x.args = 0)) = true) : fitW n (l ++ [x]) = fitW n l ++ [x] := by
  unfold fitW
  rw [List.filter_append, List.filter_cons_of_pos (by simpa using h)]
  rfl
theorem fitW_snoc_not (n : Int) (l : List Wd) (x : Wd) (h : (decide (1 < n) || decide (x.args = 0)) = false) : fitW n (l ++ [x]) = fitW n l := by
  unfold fitW
  rw [List.filter_append, List.filter_cons_of_neg (by simpa using h)]
  simp
theorem fitW_le (n : Int) (l : List Wd) : (fitW n l).length ≤ l.length := List.length_filter_le _ _

set_option maxRecDepth 100000 in
set_option maxHeartbeats 400000 in
theorem within_any (n : Int) (w : World) (hG : Glob w) :
    Calls Tryd.prog 44 #[.int .i64 n] w fun e w' => ∃ v, e = .returned v ∧ w'.ownsRow w.heap.size 82 3 v (fitW n words).length (flatW (fitW n words)) ∧ Below w.heap.size w w' := by
  obtain ⟨i0, hi, hz0, hz1, hz2⟩ := info_parts info82
  obtain ⟨tt, fr, hg1⟩ := hG
  go_enter Tryd.func44, Tryd.ntmps44
  go_wp2_with (refine wpList_load_row rfl 100 _ rfl 0 rfl tt _ fr _ hg1 Tryd.underlying100 rfl (by kernel_rfl) ?_)
  go_loopw [3, 7] (fun v i wr => ∃ k : Nat, k ≤ 8 ∧ i = .int .i64 k ∧ wr.ownsRow w.heap.size 82 3 v (fitW n (words.take k)).length (flatW (fitW n (words.take k))) ∧ Below w.heap.size w wr) (fun _ i _ => 8 - (intOf i).toNat)
  case atStart => exact ⟨0, Nat.zero_le _, rfl, World.ownsRow_nil _ _ _ _, Below.refl _ _⟩
  case round =>
    obtain ⟨k, hk, rfl, ho, hb⟩ := hrel
    by_cases hlk : k < 8
    · obtain ⟨x, hx⟩ : ∃ x, words[k]? = some x := ⟨words[k]'hlk, List.getElem?_eq_getElem hlk⟩
      have hwa := words_at k x hx
      have hts : words.take (k + 1) = words.take k ++ [x] := by rw [List.take_add_one, hx]; rfl
      have HTS := Lib.hid hts
      have hle := fitW_le n (words.take k)
      have hlt2 : (words.take k).length ≤ k := List.length_take_le _ _
      have hzb := hb.size
      clear hx hts
      by_cases hn : 1 < n
      · have HF := Lib.hid (fitW_snoc n (words.take k) x (by simp [hn]))
        go_wp2_with (at_builtin; refine wpList_append_own _ rfl _ _ 97 rfl w.heap.size 82 i0 (.agg #[.int .i64 0, .int .i64 0, .string ByteArray.empty]) 3 32 Tryd.underlying97 hi hz0 hz1 hz2 rfl (by decide) _ _ _ rfl ((ho.alloc _).alloc _) ⟨wr.heap.size + 1, 0, none⟩ 1 1 [.int .i64 x.kind, .int .i64 x.args, .string x.name] rfl rfl (cell_three_new _ _ _ _ _ _ (by simp)) (three_one _ _ _) (by unfold maxLen; omega) (by omega) (by simp; omega) ?_; intro v' w1 hown1 hgrow1 _)
        go_roundw
        case rel =>
          refine ⟨k + 1, by omega, by go_num, ?_, ?_⟩
          · rw [HTS.out, HF.out, flatW_append]
            simpa [flatW] using hown1
          · refine Below.grown ((hb.alloc (by omega) _).alloc (by simp; omega) _) hgrow1 (by simp; omega) (fun j hj => (ho.lt j hj).1)
        case measure => simp [intOf]; omega
      · by_cases ha : x.args = 0
        · have HF := Lib.hid (fitW_snoc n (words.take k) x (by simp [ha]))
          have hae : (x.args == 0) = true := by simp [ha]
          clear ha
          go_wp2_with (at_builtin; refine wpList_append_own _ rfl _ _ 97 rfl w.heap.size 82 i0 (.agg #[.int .i64 0, .int .i64 0, .string ByteArray.empty]) 3 32 Tryd.underlying97 hi hz0 hz1 hz2 rfl (by decide) _ _ _ rfl ((ho.alloc _).alloc _) ⟨wr.heap.size + 1, 0, none⟩ 1 1 [.int .i64 x.kind, .int .i64 x.args, .string x.name] rfl rfl (cell_three_new _ _ _ _ _ _ (by simp)) (three_one _ _ _) (by unfold maxLen; omega) (by omega) (by simp; omega) ?_; intro v' w1 hown1 hgrow1 _)
          go_roundw
          case rel =>
            refine ⟨k + 1, by omega, by go_num, ?_, ?_⟩
            · rw [HTS.out, HF.out, flatW_append]
              simpa [flatW] using hown1
            · refine Below.grown ((hb.alloc (by omega) _).alloc (by simp; omega) _) hgrow1 (by simp; omega) (fun j hj => (ho.lt j hj).1)
          case measure => simp [intOf]; omega
        · have HF := Lib.hid (fitW_snoc_not n (words.take k) x (by simp [hn, ha]))
          have hae : (x.args == 0) = false := by simp [ha]
          clear ha
          go_wp2
          go_roundw
          case rel =>
            refine ⟨k + 1, by omega, by go_num, ?_, hb.alloc (by omega) _⟩
            rw [HTS.out, HF.out]
            exact ho.alloc _
          case measure => simp [intOf]; omega
    · go_wp2
      go_ret
      obtain rfl : k = 8 := by omega
      exact ⟨_, rfl, ho, hb⟩
end Go.Proofs.YtdoadedglpjldaaDoor
