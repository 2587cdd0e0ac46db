/-
Ported from the texts of layer 2: Ka.
-/
import Derived.Test.YtllnamhgnbdkmaaGreatDoorBs
import Derived.StillTailTactics
import Derived.ScopeJumps
import Derived.RegionTactic
namespace Go.Proofs.YtllnamhgnbdkmaaGreatDoor.Knd
open Go.RowKit
theorem info82 : (Tryz.prog.info? 182).map (fun i => (i.zero, i.size, i.bytes)) = some (some (.agg #[.int .i64 0, .int .i64 0, .string ByteArray.empty]), 3, 32) := by kernel_rfl
structure Wd where
  kind : Int
  args : Int
  name : ByteArray
def flatW : List Wd → List Value
  | [] => []
  | x :: l => .int .i64 x.kind :: .int .i64 x.args :: .string x.name :: flatW l
theorem flatW_length : ∀ l : List Wd, (flatW l).length = l.length * 3
  | [] => rfl
  | x :: l => by simp [flatW, flatW_length l]; omega
theorem flatW_append : ∀ l m : List Wd, flatW (l ++ m) = flatW l ++ flatW m
  | [], _ => rfl
  | x :: l, m => by simp [flatW, flatW_append l m]
theorem flatW_at : ∀ (l : List Wd) (k : Nat) (x : Wd), l[k]? = some x →
    (flatW l)[k * 3]? = some (.int .i64 x.kind) ∧ (flatW l)[k * 3 + 1]? = some (.int .i64 x.args) ∧ (flatW l)[k * 3 + 2]? = some (.string x.name)
  | [], k, x, h => by simp at h
  | y :: l, 0, x, h => by simp at h; subst h; simp [flatW]
  | y :: l, k + 1, x, h => by
    have h' : l[k]? = some x := by simpa using h
    obtain ⟨a, b, c⟩ := flatW_at l k x h'
    refine ⟨?_, ?_, ?_⟩
    · rw [show (k + 1) * 3 = k * 3 + 3 by omega]; simpa [flatW] using a
    · rw [show (k + 1) * 3 + 1 = k * 3 + 1 + 3 by omega]; simpa [flatW] using b
    · rw [show (k + 1) * 3 + 2 = k * 3 + 2 + 3 by omega]; simpa [flatW] using c
def onW (l : List Wd) (p : Nat) (b : UInt8) : List Wd := l.filter fun x => x.name.data.toList[p]? == some b
theorem onW_snoc (l : List Wd) (x : Wd) (p : Nat) (b : UInt8) (hp : p < x.name.size) (h : x.name[p] = b) : onW (l ++ [x]) p b = onW l p b ++ [x] := by
  have e : x.name.data.toList[p]? = some b := by
    rw [List.getElem?_eq_getElem (by simpa using hp)]; exact congrArg some h
  unfold onW
  rw [List.filter_append, List.filter_cons_of_pos (by rw [e]; simp)]
  rfl
theorem onW_snoc_not (l : List Wd) (x : Wd) (p : Nat) (b : UInt8) (hp : p < x.name.size) (h : x.name[p] ≠ b) : onW (l ++ [x]) p b = onW l p b := by
  have e : x.name.data.toList[p]? ≠ some b := by
    rw [List.getElem?_eq_getElem (by simpa using hp)]
    intro he
    exact h (Option.some.inj he)
  unfold onW
  rw [List.filter_append, List.filter_cons_of_neg (by simpa using e)]
  simp
theorem onW_le (l : List Wd) (p : Nat) (b : UInt8) : (onW l p b).length ≤ l.length := List.length_filter_le _ _
theorem cell_three_new (w : World) (a b c : Value) (t : TypeId) (B : Nat) (hB : B = w.heap.size) : ∀ j u, [a, b, c][j]? = some u → (w.alloc (.cells #[a, b, c] t)).cell? ((⟨B, 0, none⟩ : Addr).add j) = some u := by
  subst hB
  intro j u hj
  match j, hj with
  | 0, hj => simp at hj; subst hj; simp [Addr.add]
  | 1, hj => simp at hj; subst hj; simp [Addr.add]
  | 2, hj => simp at hj; subst hj; simp [Addr.add]
  | j + 3, hj => simp at hj
theorem goingOn_nil (p : Int) (b : UInt8) (w : World) :
    Calls Tryz.prog 160 #[.slice none 0 0, .int .i64 p, .int .u8 b.toNat] w fun e w' => e = .returned (.slice none 0 0) ∧ w = w' := by
  go_enter Tryz.func160, Tryz.ntmps160
  go_wp2
  refine wp_loop_rounds 1 ?_
  rw [rounds_succ]
  go_wp2
  go_ret
  exact ⟨rfl, rfl⟩
set_option maxRecDepth 100000 in
set_option maxHeartbeats 400000 in
theorem goingOn_any (l : List Wd) (B : Nat) (lv : Value) (p : Nat) (b : UInt8) (w : World) (hown : w.ownsRow B 182 3 lv l.length (flatW l)) (hl : l.length ≤ 100) (hp : ∀ x ∈ l, p < x.name.size ∧ x.name.size ≤ 100) :
    Calls Tryz.prog 160 #[lv, .int .i64 (p : Int), .int .u8 b.toNat] w fun e w' => ∃ v, e = .returned v ∧ w'.ownsRow w.heap.size 182 3 v (onW l p b).length (flatW (onW l p b)) ∧ Below w.heap.size w w' := by
  obtain ⟨i0, hi, hz0, hz1, hz2⟩ := info_parts info82
  rcases hown.2 with ⟨rfl, hn⟩ | ⟨g, cap, cur, rfl, hBg, hg, hncap, hcapm, _, _⟩
  · obtain rfl : l = [] := List.eq_nil_of_length_eq_zero hn
    exact (goingOn_nil p b w).mono fun e w' ⟨he, hw⟩ => ⟨_, he, by rw [hw]; exact World.ownsRow_nil _ _ _ _, by rw [hw]; exact Below.refl _ _⟩
  · have hlt := (hown.lt g rfl).2
    unfold maxLen at hcapm
    clear hg hBg
    go_enter Tryz.func160, Tryz.ntmps160
    go_wp2
    go_loopw [7, 12] (fun v i wr => ∃ k : Nat, k ≤ l.length ∧ i = .int .i64 k ∧ wr.ownsRow w.heap.size 182 3 v (onW (l.take k) p b).length (flatW (onW (l.take k) p b)) ∧ Below w.heap.size w wr) (fun _ i _ => l.length - (intOf i).toNat)
    case atStart => exact ⟨0, Nat.zero_le _, rfl, World.ownsRow_nil _ _ _ _, Below.refl _ _⟩
    case round =>
      obtain ⟨k, hk, rfl, ho, hb⟩ := hrel
      by_cases hlk : k < l.length
      · obtain ⟨x, hx⟩ : ∃ x, l[k]? = some x := ⟨l[k], List.getElem?_eq_getElem hlk⟩
        obtain ⟨x0, x1, x2⟩ := flatW_at l k x hx
        have hlen := flatW_length l
        have c0 := (hb.cell (p := ⟨g, k * 3, none⟩) hlt).trans ((hown.cellAt (k * 3) (by omega)).trans x0)
        have c1 := (hb.cell (p := ⟨g, k * 3 + 1, none⟩) hlt).trans ((hown.cellAt (k * 3 + 1) (by omega)).trans x1)
        have c2 := (hb.cell (p := ⟨g, k * 3 + 2, none⟩) hlt).trans ((hown.cellAt (k * 3 + 2) (by omega)).trans x2)
        have hts : l.take (k + 1) = l.take k ++ [x] := by rw [List.take_add_one, hx]; rfl
        have HTS := Lib.hid hts
        obtain ⟨hpx, hp100⟩ := hp x (List.mem_of_getElem? hx)
        have hle := onW_le (l.take k) p b
        have hlt2 : (l.take k).length ≤ k := List.length_take_le _ _
        have hzb := hb.size
        clear x0 x1 x2 hx hlen hts hp
        by_cases hbb : x.name[p] = b
        · have hbt := u8_beq_true hbb
          have HBB := Lib.hid hbb
          clear hbb
          go_wp2_with (at_builtin; refine wpList_append_own _ rfl _ _ 205 rfl w.heap.size 182 i0 (.agg #[.int .i64 0, .int .i64 0, .string ByteArray.empty]) 3 32 Tryz.underlying205 hi hz0 hz1 hz2 rfl (by decide) _ _ _ rfl ((ho.alloc _).alloc _) ⟨wr.heap.size + 1, 0, none⟩ 1 1 [.int .i64 x.kind, .int .i64 x.args, .string x.name] rfl rfl ?c1 ?c2 ?c3 ?c4 ?c5 ?_)
          case c1 => exact cell_three_new _ _ _ _ _ _ (by simp)
          case c2 => intro u hu; simp at hu; rcases hu with rfl | rfl | rfl <;> rfl
          case c3 => unfold maxLen; omega
          case c4 => omega
          case c5 => simp; omega
          intro v' w1 hown1 hgrow1 _
          go_wp2
          go_roundw
          case rel =>
            refine ⟨k + 1, by omega, by go_num, ?_, ?_⟩
            · rw [HTS.out, onW_snoc _ _ _ _ hpx HBB.out, flatW_append]
              simpa [flatW] using hown1
            · refine Below.grown ((hb.alloc (by omega) _).alloc (by simp; omega) _) hgrow1 (by simp; omega) (fun j hj => (ho.lt j hj).1)
          case measure => simp [intOf]; omega
        · have hbt := u8_beq_false hbb
          have HBB := Lib.hid hbb
          clear hbb
          go_wp2
          go_roundw
          case rel =>
            refine ⟨k + 1, by omega, by go_num, ?_, hb.alloc (by omega) _⟩
            rw [HTS.out, onW_snoc_not _ _ _ _ hpx HBB.out]
            exact ho.alloc _
          case measure => simp [intOf]; omega
      · go_wp2
        go_ret
        obtain rfl : k = l.length := by omega
        rw [List.take_length] at ho
        exact ⟨_, rfl, ho, hb⟩
def w1 : Wd := ⟨1, 0, ⟨#[98, 111, 111, 108]⟩⟩
def w2 : Wd := ⟨2, 0, ⟨#[105, 110, 116]⟩⟩
def w3 : Wd := ⟨3, 0, ⟨#[116, 101, 120, 116]⟩⟩
def w4 : Wd := ⟨4, 0, ⟨#[98, 121, 116, 101, 115]⟩⟩
def w5 : Wd := ⟨5, 0, ⟨#[112, 111, 105, 110, 116]⟩⟩
def w6 : Wd := ⟨6, 2, ⟨#[112, 97, 105, 114]⟩⟩
def w7 : Wd := ⟨7, 1, ⟨#[108, 105, 115, 116]⟩⟩
def w9 : Wd := ⟨9, 1, ⟨#[111, 112, 116, 105, 111, 110]⟩⟩
def words : List Wd := [w1, w2, w3, w4, w5, w6, w7, w9]
def fitW (room : Int) (l : List Wd) : List Wd := l.filter fun x => decide (1 < room) || decide (x.args = 0)
def wordsRow : Array Value := #[.int .i64 1, .int .i64 0, .string ⟨#[98, 111, 111, 108]⟩, .int .i64 2, .int .i64 0, .string ⟨#[105, 110, 116]⟩, .int .i64 3, .int .i64 0, .string ⟨#[116, 101, 120, 116]⟩, .int .i64 4, .int .i64 0, .string ⟨#[98, 121, 116, 101, 115]⟩, .int .i64 5, .int .i64 0, .string ⟨#[112, 111, 105, 110, 116]⟩, .int .i64 6, .int .i64 2, .string ⟨#[112, 97, 105, 114]⟩, .int .i64 7, .int .i64 1, .string ⟨#[108, 105, 115, 116]⟩, .int .i64 9, .int .i64 1, .string ⟨#[111, 112, 116, 105, 111, 110]⟩]
def Glob (w : World) : Prop := ∃ t fr, w.heap[2]? = some (.cells wordsRow t fr)
theorem Glob.lt {w : World} (h : Glob w) : 2 < w.heap.size := by
  obtain ⟨t, fr, h⟩ := h
  exact (Array.getElem?_eq_some_iff.1 h).1
theorem Glob.kept {w w' : World} (h : Glob w) (hw : w'.heap[2]? = w.heap[2]?) : Glob w' := by
  obtain ⟨t, fr, h⟩ := h
  exact ⟨t, fr, hw.trans h⟩
theorem words_at0 : ∀ w : World, (Instr.index 196 (.agg wordsRow) (.int .i64 ((0 : Nat) : Int))).run Tryz.prog w = .ok (.agg #[.int .i64 w1.kind, .int .i64 w1.args, .string w1.name]) w := fun _ => by kernel_rfl
theorem words_at1 : ∀ w : World, (Instr.index 196 (.agg wordsRow) (.int .i64 ((1 : Nat) : Int))).run Tryz.prog w = .ok (.agg #[.int .i64 w2.kind, .int .i64 w2.args, .string w2.name]) w := fun _ => by kernel_rfl
theorem words_at2 : ∀ w : World, (Instr.index 196 (.agg wordsRow) (.int .i64 ((2 : Nat) : Int))).run Tryz.prog w = .ok (.agg #[.int .i64 w3.kind, .int .i64 w3.args, .string w3.name]) w := fun _ => by kernel_rfl
theorem words_at3 : ∀ w : World, (Instr.index 196 (.agg wordsRow) (.int .i64 ((3 : Nat) : Int))).run Tryz.prog w = .ok (.agg #[.int .i64 w4.kind, .int .i64 w4.args, .string w4.name]) w := fun _ => by kernel_rfl
theorem words_at4 : ∀ w : World, (Instr.index 196 (.agg wordsRow) (.int .i64 ((4 : Nat) : Int))).run Tryz.prog w = .ok (.agg #[.int .i64 w5.kind, .int .i64 w5.args, .string w5.name]) w := fun _ => by kernel_rfl
theorem words_at5 : ∀ w : World, (Instr.index 196 (.agg wordsRow) (.int .i64 ((5 : Nat) : Int))).run Tryz.prog w = .ok (.agg #[.int .i64 w6.kind, .int .i64 w6.args, .string w6.name]) w := fun _ => by kernel_rfl
theorem words_at6 : ∀ w : World, (Instr.index 196 (.agg wordsRow) (.int .i64 ((6 : Nat) : Int))).run Tryz.prog w = .ok (.agg #[.int .i64 w7.kind, .int .i64 w7.args, .string w7.name]) w := fun _ => by kernel_rfl
theorem words_at7 : ∀ w : World, (Instr.index 196 (.agg wordsRow) (.int .i64 ((7 : Nat) : Int))).run Tryz.prog w = .ok (.agg #[.int .i64 w9.kind, .int .i64 w9.args, .string w9.name]) w := fun _ => by kernel_rfl
theorem words_at (k : Nat) (x : Wd) (h : words[k]? = some x) (w : World) :
    (Instr.index 196 (.agg wordsRow) (.int .i64 (k : Int))).run Tryz.prog w = .ok (.agg #[.int .i64 x.kind, .int .i64 x.args, .string x.name]) w := by
  match k, h with
  | 0, h => (obtain rfl : w1 = x := by simpa [words] using h); exact words_at0 w
  | 1, h => (obtain rfl : w2 = x := by simpa [words] using h); exact words_at1 w
  | 2, h => (obtain rfl : w3 = x := by simpa [words] using h); exact words_at2 w
  | 3, h => (obtain rfl : w4 = x := by simpa [words] using h); exact words_at3 w
  | 4, h => (obtain rfl : w5 = x := by simpa [words] using h); exact words_at4 w
  | 5, h => (obtain rfl : w6 = x := by simpa [words] using h); exact words_at5 w
  | 6, h => (obtain rfl : w7 = x := by simpa [words] using h); exact words_at6 w
  | 7, h => (obtain rfl : w9 = x := by simpa [words] using h); exact words_at7 w
  | k + 8, h => simp [words] at h
theorem three_one (a b : Int) (s : ByteArray) : ∀ u ∈ [Value.int .i64 a, Value.int .i64 b, Value.string s], u.oneCell' = true := by
  intro u hu
  simp at hu
  rcases hu with rfl | rfl | rfl <;> rfl
theorem fitW_snoc (n : Int) (l : List Wd) (x : Wd) (h : (decide (1 < n) || decide (x.args = 0)) = true) : fitW n (l ++ [x]) = fitW n l ++ [x] := by
  unfold fitW
  rw [List.filter_append, List.filter_cons_of_pos (by simpa using h)]
  rfl
theorem fitW_snoc_not (n : Int) (l : List Wd) (x : Wd) (h : (decide (1 < n) || decide (x.args = 0)) = false) : fitW n (l ++ [x]) = fitW n l := by
  unfold fitW
  rw [List.filter_append, List.filter_cons_of_neg (by simpa using h)]
  simp
theorem fitW_le (n : Int) (l : List Wd) : (fitW n l).length ≤ l.length := List.length_filter_le _ _
set_option maxRecDepth 100000 in
set_option maxHeartbeats 400000 in
theorem within_any (n : Int) (w : World) (hG : Glob w) :
    Calls Tryz.prog 151 #[.int .i64 n] w fun e w' => ∃ v, e = .returned v ∧ w'.ownsRow w.heap.size 182 3 v (fitW n words).length (flatW (fitW n words)) ∧ Below w.heap.size w w' := by
  obtain ⟨i0, hi, hz0, hz1, hz2⟩ := info_parts info82
  obtain ⟨tt, fr, hg1⟩ := hG
  go_enter Tryz.func151, Tryz.ntmps151
  go_wp2_with (refine wpList_load_row rfl 196 _ rfl 2 rfl tt _ fr _ hg1 Tryz.underlying196 rfl (by kernel_rfl) ?_)
  go_loopw [3, 7] (fun v i wr => ∃ k : Nat, k ≤ 8 ∧ i = .int .i64 k ∧ wr.ownsRow w.heap.size 182 3 v (fitW n (words.take k)).length (flatW (fitW n (words.take k))) ∧ Below w.heap.size w wr) (fun _ i _ => 8 - (intOf i).toNat)
  case atStart => exact ⟨0, Nat.zero_le _, rfl, World.ownsRow_nil _ _ _ _, Below.refl _ _⟩
  case round =>
    obtain ⟨k, hk, rfl, ho, hb⟩ := hrel
    by_cases hlk : k < 8
    · obtain ⟨x, hx⟩ : ∃ x, words[k]? = some x := ⟨words[k]'hlk, List.getElem?_eq_getElem hlk⟩
      have hwa := words_at k x hx
      have hts : words.take (k + 1) = words.take k ++ [x] := by rw [List.take_add_one, hx]; rfl
      have HTS := Lib.hid hts
      have hle := fitW_le n (words.take k)
      have hlt2 : (words.take k).length ≤ k := List.length_take_le _ _
      have hzb := hb.size
      clear hx hts
      by_cases hn : 1 < n
      · have HF := Lib.hid (fitW_snoc n (words.take k) x (by simp [hn]))
        go_wp2_with (at_builtin; refine wpList_append_own _ rfl _ _ 205 rfl w.heap.size 182 i0 (.agg #[.int .i64 0, .int .i64 0, .string ByteArray.empty]) 3 32 Tryz.underlying205 hi hz0 hz1 hz2 rfl (by decide) _ _ _ rfl ((ho.alloc _).alloc _) ⟨wr.heap.size + 1, 0, none⟩ 1 1 [.int .i64 x.kind, .int .i64 x.args, .string x.name] rfl rfl (cell_three_new _ _ _ _ _ _ (by simp)) (three_one _ _ _) (by unfold maxLen; omega) (by omega) (by simp; omega) ?_; intro v' w1 hown1 hgrow1 _)
        go_roundw
        case rel =>
          refine ⟨k + 1, by omega, by go_num, ?_, ?_⟩
          · rw [HTS.out, HF.out, flatW_append]
            simpa [flatW] using hown1
          · refine Below.grown ((hb.alloc (by omega) _).alloc (by simp; omega) _) hgrow1 (by simp; omega) (fun j hj => (ho.lt j hj).1)
        case measure => simp [intOf]; omega
      · by_cases ha : x.args = 0
        · have HF := Lib.hid (fitW_snoc n (words.take k) x (by simp [ha]))
          have hae : (x.args == 0) = true := by simp [ha]
          clear ha
          go_wp2_with (at_builtin; refine wpList_append_own _ rfl _ _ 205 rfl w.heap.size 182 i0 (.agg #[.int .i64 0, .int .i64 0, .string ByteArray.empty]) 3 32 Tryz.underlying205 hi hz0 hz1 hz2 rfl (by decide) _ _ _ rfl ((ho.alloc _).alloc _) ⟨wr.heap.size + 1, 0, none⟩ 1 1 [.int .i64 x.kind, .int .i64 x.args, .string x.name] rfl rfl (cell_three_new _ _ _ _ _ _ (by simp)) (three_one _ _ _) (by unfold maxLen; omega) (by omega) (by simp; omega) ?_; intro v' w1 hown1 hgrow1 _)
          go_roundw
          case rel =>
            refine ⟨k + 1, by omega, by go_num, ?_, ?_⟩
            · rw [HTS.out, HF.out, flatW_append]
              simpa [flatW] using hown1
            · refine Below.grown ((hb.alloc (by omega) _).alloc (by simp; omega) _) hgrow1 (by simp; omega) (fun j hj => (ho.lt j hj).1)
          case measure => simp [intOf]; omega
        · have HF := Lib.hid (fitW_snoc_not n (words.take k) x (by simp [hn, ha]))
          have hae : (x.args == 0) = false := by simp [ha]
          clear ha
          go_wp2
          go_roundw
          case rel =>
            refine ⟨k + 1, by omega, by go_num, ?_, hb.alloc (by omega) _⟩
            rw [HTS.out, HF.out]
            exact ho.alloc _
          case measure => simp [intOf]; omega
    · go_wp2
      go_ret
      obtain rfl : k = 8 := by omega
      exact ⟨_, rfl, ho, hb⟩
def Rdr (w : World) (R : Nat) (s : ByteArray) (at_ : Nat) : Prop := w.heap[R]? = some (.cells #[.string s, .int .i64 (at_ : Int)] 193 (0, 0))
theorem Rdr.c0 {w : World} {R : Nat} {s : ByteArray} {n : Nat} (h : Rdr w R s n) : w.cell? ⟨R, 0, none⟩ = some (.string s) := by
  unfold Rdr at h; simp [World.cell?, h]
theorem Rdr.c1 {w : World} {R : Nat} {s : ByteArray} {n : Nat} (h : Rdr w R s n) : w.cell? ⟨R, 1, none⟩ = some (.int .i64 (n : Int)) := by
  unfold Rdr at h; simp [World.cell?, h]
theorem Rdr.f1 {w : World} {R : Nat} {s : ByteArray} {n : Nat} (h : Rdr w R s n) : w.frozen? ⟨R, 1, none⟩ = false := by
  unfold Rdr at h; simp [World.frozen?, h]
theorem Rdr.lt {w : World} {R : Nat} {s : ByteArray} {n : Nat} (h : Rdr w R s n) : R < w.heap.size := by
  unfold Rdr at h; exact (Array.getElem?_eq_some_iff.1 h).1
theorem Rdr.set_ {w : World} {R : Nat} {s : ByteArray} {n : Nat} (h : Rdr w R s n) (m : Int) (k : Nat) (hm : m = k) : Rdr (w.setCell ⟨R, 1, none⟩ (.int .i64 m)) R s k := by
  subst hm
  unfold Rdr at h ⊢
  simp [World.setCell, Array.getElem?_modify, h]
theorem Rdr.kept {w w' : World} {R : Nat} {s : ByteArray} {n : Nat} (h : Rdr w R s n) (hw : w'.heap[R]? = w.heap[R]?) : Rdr w' R s n := hw.trans h
set_option maxRecDepth 100000 in
theorem readByte_end (R : Nat) (s : ByteArray) (b : UInt8) (w : World) (h : Rdr w R s s.size) :
    Calls Tryz.prog 152 #[.pointer (some ⟨R, 0, none⟩), .int .u8 b.toNat] w fun e w' => e = .returned (.bool false) ∧ ∃ n, w' = w.drewN n := by
  have c0 := h.c0
  have c1 := h.c1
  have f1 := h.f1
  have hd : (((s.size : Int)) == (s.size : Int)) = true := by simp
  go_enter Tryz.func152, Tryz.ntmps152
  go_wp2
  go_quiet (fail)
  go_wp2
  go_ret
  exact ⟨rfl, _, rfl⟩
set_option maxRecDepth 100000 in
theorem readByte_no (R : Nat) (s : ByteArray) (n : Nat) (b : UInt8) (w : World) (h : Rdr w R s n) (hn : n < s.size) (hb : s[n] ≠ b) :
    Calls Tryz.prog 152 #[.pointer (some ⟨R, 0, none⟩), .int .u8 b.toNat] w fun e w' => e = .returned (.bool false) ∧ ∃ n, w' = w.drewN n := by
  have c0 := h.c0
  have c1 := h.c1
  have f1 := h.f1
  have hd : ((n : Int) == (s.size : Int)) = false := by simp; omega
  have hx : ((s[n].toNat : Int) != (b.toNat : Int)) = true := by simp [bne, u8_beq_false hb]
  clear hb
  go_enter Tryz.func152, Tryz.ntmps152
  go_wp2
  go_quiet (fail)
  go_wp2
  go_ret
  exact ⟨rfl, _, rfl⟩
set_option maxRecDepth 100000 in
theorem readByte_yes (R : Nat) (s : ByteArray) (n : Nat) (b : UInt8) (w : World) (h : Rdr w R s n) (hs : s.size ≤ 1000000) (hn : n < s.size) (hb : s[n] = b) :
    Calls Tryz.prog 152 #[.pointer (some ⟨R, 0, none⟩), .int .u8 b.toNat] w fun e w' => e = .returned (.bool true) ∧ Rdr w' R s (n + 1) ∧ Only R w w' := by
  have c0 := h.c0
  have c1 := h.c1
  have f1 := h.f1
  have hd : ((n : Int) == (s.size : Int)) = false := by simp; omega
  have hx : ((s[n].toNat : Int) != (b.toNat : Int)) = false := by simp [bne, u8_beq_true hb]
  clear hb
  go_enter Tryz.func152, Tryz.ntmps152
  go_wp2
  go_quiet (fail)
  go_wp2
  go_ret
  exact ⟨rfl, Rdr.set_ (w := w.drewN nq) h _ _ (by omega), ((Only.refl R w).drewN _).trans (Only.set_ _ _ _ _)⟩
def readW (l : List Wd) (n : Nat) : List UInt8 → Nat × Option Wd
  | [] => (0, none)
  | b :: rest => match onW l n b with
    | [] => (0, none)
    | x :: l' => if n + 1 < x.name.size then ((readW (x :: l') (n + 1) rest).1 + 1, (readW (x :: l') (n + 1) rest).2) else (1, some x)
def St (l : List Wd) (n : Nat) : Prop := (∀ x ∈ l, x ∈ words ∧ n < x.name.size) ∧ ∀ x ∈ l, ∀ y ∈ l, x.name.data.toList.take n = y.name.data.toList.take n
theorem words_small : ∀ x ∈ words, 0 < x.name.size ∧ x.name.size ≤ 6 := by decide
theorem words_apart : ∀ x ∈ words, ∀ y ∈ words, x.name.data.toList = y.name.data.toList.take x.name.size → x.name.size = y.name.size := by decide
theorem St.start (room : Int) : St (fitW room words) 0 :=
  ⟨fun x hx => by have h := (List.mem_filter.1 hx).1; exact ⟨h, (words_small x h).1⟩, fun _ _ _ _ => by simp⟩
theorem St.step {l : List Wd} {n : Nat} {b : UInt8} {x : Wd} {l' : List Wd} (h : St l n) (ho : onW l n b = x :: l') (hx : n + 1 < x.name.size) : St (x :: l') (n + 1) := by
  have hm : ∀ y ∈ x :: l', y ∈ l ∧ y.name.data.toList[n]? = some b := fun y hy => by
    rw [← ho] at hy
    have := List.mem_filter.1 hy
    exact ⟨this.1, by simpa using this.2⟩
  have ht : ∀ y ∈ x :: l', y.name.data.toList.take (n + 1) = x.name.data.toList.take n ++ [b] := fun y hy => by
    obtain ⟨h1, h2⟩ := hm y hy
    rw [List.take_add_one, h2, h.2 y h1 x (hm x (List.mem_cons_self ..)).1]
    rfl
  refine ⟨fun y hy => ⟨(h.1 y (hm y hy).1).1, ?_⟩, fun y hy z hz => by rw [ht y hy, ht z hz]⟩
  have hy1 := h.1 y (hm y hy).1
  rcases Nat.lt_or_ge (n + 1) y.name.size with hlt | hge
  · exact hlt
  · have hs : y.name.size = n + 1 := by omega
    have hyl : y.name.data.toList.length = y.name.size := by simp
    have e : y.name.data.toList = x.name.data.toList.take y.name.size := by
      rw [hs, ht x (List.mem_cons_self ..), ← ht y hy, List.take_of_length_le (by omega)]
    have := words_apart y hy1.1 x (h.1 x (hm x (List.mem_cons_self ..)).1).1 e
    omega
def wdVal (x : Wd) : Value := .agg #[.int .i64 x.kind, .int .i64 x.args, .string x.name]
def zeroWd : Wd := ⟨0, 0, ⟨#[]⟩⟩
structure RdInv (R : Nat) (s : ByteArray) (n : Nat) (l : List Wd) (w : World) (k : Nat) (lk : List Wd) (vk : Value) (w' : World) : Prop where
  st : St lk k
  rdr : Rdr w' R s (n + k)
  len : lk.length ≤ 100
  own : ∃ B, w'.ownsRow B 182 3 vk lk.length (flatW lk)
  only : Only R w w'
  cell : w'.heap[w.heap.size]? = some (.cells #[.int .i64 0, .int .i64 0, .string ⟨#[]⟩] 182 (0, 0))
  le : n + k ≤ s.size
  eq : readW l 0 (s.data.toList.drop n) = (k + (readW lk k (s.data.toList.drop (n + k))).1, (readW lk k (s.data.toList.drop (n + k))).2)
theorem wp_scope_enter {P : Program} {a : Act} {w : World} {Q : Exit → Act → World → Prop} {pre rest : Code} {l : Nat} (J : Act → World → Prop) (μ : Act → World → Nat)
    (hf : findLabel (pre.seq ((Code.label l).seq rest)) l = some (Code.skip.seq rest)) (first : pre.wp P (Exit.then J fun _ _ _ => False) a w)
    (pass : ∀ a w, J a w → rest.wp P (Exit.jump l (fun a' w' => J a' w' ∧ μ a' w' < μ a w) Q) a w) : (Code.scope (pre.seq ((Code.label l).seq rest))).wp P Q a w := by
  refine wp_scope_jumps l J μ hf ?_ (fun a w hJ => wp_seq (wp_skip (pass a w hJ)))
  refine wp_seq (wp_mono first fun e a1 w1 h => ?_)
  cases e with
  | normal =>
    refine wp_seq (wp_label ?_)
    refine wp_mono (pass a1 w1 h) fun e a2 w2 h2 => ?_
    cases e with
    | goto l' => exact ⟨h2.1, h2.2.1⟩
    | _ => exact h2
  | _ => exact h.elim
theorem rdr_three {R g : Nat} {s : ByteArray} {m : Nat} {w : World} (h : Rdr w R s m) (hg : R ≠ g) (a b c : Value) : Rdr (((w.setCell ⟨g, 0, none⟩ a).setCell ⟨g, 1, none⟩ b).setCell ⟨g, 2, none⟩ c) R s m :=
  ((h.kept (Below.heap_setCell w ⟨g, 0, none⟩ a R hg)).kept (Below.heap_setCell _ ⟨g, 1, none⟩ b R hg)).kept (Below.heap_setCell _ ⟨g, 2, none⟩ c R hg)
theorem only_three {R : Nat} {w w' : World} (h : Only R w w') (a b c : Value) : Only R w (((w'.setCell ⟨w.heap.size, 0, none⟩ a).setCell ⟨w.heap.size, 1, none⟩ b).setCell ⟨w.heap.size, 2, none⟩ c) :=
  only_far (only_far (only_far h (Nat.le_refl _) _) (Nat.le_refl _) _) (Nat.le_refl _) _
set_option maxRecDepth 100000 in
set_option maxHeartbeats 1000000 in
theorem readWord_any (R : Nat) (s : ByteArray) (n : Nat) (B : Nat) (lv : Value) (l : List Wd) (w : World) (h : Rdr w R s n) (hs : s.size ≤ 1000000) (hn : n ≤ s.size) (hown : w.ownsRow B 182 3 lv l.length (flatW l)) (hst : St l 0) (hl : l.length ≤ 100) :
    Calls Tryz.prog 150 #[.pointer (some ⟨R, 0, none⟩), lv] w fun e w' => e = .returned (.tuple #[wdVal ((readW l 0 (s.data.toList.drop n)).2.getD zeroWd), .bool (readW l 0 (s.data.toList.drop n)).2.isSome]) ∧ Rdr w' R s (n + (readW l 0 (s.data.toList.drop n)).1) ∧ Only R w w' := by
  go_enter Tryz.func150, Tryz.ntmps150
  go_wp2
  refine wp_scope_enter (fun a' w' => ∃ (k : Nat) (lk : List Wd) (vk : Value) (u7 u8 u9 u10 u11 u12 u13 u14 u15 u16 u17 u18 u19 u20 u21 u22 u23 u24 u25 u26 u27 u28 u29 u30 u31 u32 u33 u34 u35 u36 u37 u38 u39 u40 u41 u42 u43 u44 u45 u46 u47 u48 u49 u50 u51 : Value), a' = { tmps := #[.pointer (some ⟨R, 0, none⟩), vk, undef, undef, .pointer (some ⟨w.heap.size, 0, none⟩), .bool false, .int .i64 (k : Int), u7, u8, u9, u10, u11, u12, u13, u14, u15, u16, u17, u18, u19, u20, u21, u22, u23, u24, u25, u26, u27, u28, u29, u30, u31, u32, u33, u34, u35, u36, u37, u38, u39, u40, u41, u42, u43, u44, u45, u46, u47, u48, u49, u50, u51], defers := [] } ∧ RdInv R s n l w k lk vk w') (fun a' _ => 100 - (intOf (a'.tmps.getD 6 undef)).toNat) rfl ?_ ?_
  · go_wp2
    exact ⟨0, l, lv, _, _, _, _, _, _, _, _, _, _, _, _, _, _, _, _, _, _, _, _, _, _, _, _, _, _, _, _, _, _, _, _, _, _, _, _, _, _, _, _, _, _, _, _, _, rfl, hst, h.kept (Below.heap_alloc w _ R h.lt), hl, ⟨B, hown.alloc _⟩, Only.of_below ((Below.refl _ _).alloc (Nat.le_refl _) _), heap_alloc_new w _, hn, by simp⟩
  · rintro a' w' ⟨k, lk, vk, u7, u8, u9, u10, u11, u12, u13, u14, u15, u16, u17, u18, u19, u20, u21, u22, u23, u24, u25, u26, u27, u28, u29, u30, u31, u32, u33, u34, u35, u36, u37, u38, u39, u40, u41, u42, u43, u44, u45, u46, u47, u48, u49, u50, u51, rfl, hI⟩
    obtain ⟨hst', hr, hlk, ⟨B', ho⟩, hon, hcell, hle, heq⟩ := hI
    obtain ⟨m, hm⟩ : ∃ m, m = n + k := ⟨_, rfl⟩
    rw [← hm] at hr hle heq
    have HM := Lib.hid hm
    have HEQ := Lib.hid heq
    clear hm heq
    have c0 := hr.c0
    have c1 := hr.c1
    have f1 := hr.f1
    have hRd := h.lt
    have hcl := cell_lt hcell
    by_cases hlt : m < s.size
    · go_wp2
      go_quiet (fail)
      have hr : Rdr (w'.drewN nq) R s m := hr
      have ho : (w'.drewN nq).ownsRow B' 182 3 vk lk.length (flatW lk) := ho
      have hon := hon.drewN nq
      have hcell : (w'.drewN nq).heap[w.heap.size]? = some (.cells #[.int .i64 0, .int .i64 0, .string ⟨#[]⟩] 182 (0, 0)) := hcell
      clear c0 c1 f1
      generalize w'.drewN nq = W at *
      have c0 := hr.c0
      have c1 := hr.c1
      have f1 := hr.f1
      go_wp2
      refine wp_region_still_tail 11 (by kernel_rfl) (by kernel_rfl) ?_
      simp only [List.take_succ_cons, List.take_zero, List.drop_succ_cons, List.drop_zero]
      change wpStill _ _ (World.drew _) _ _ _
      repeat still_step
      refine wpStill_nil ?_
      change wpList _ _ _ _ _ (World.drew _)
      go_wp2_with (fail)
      refine (goingOn_any lk B' vk k (s[m]) (W.drew) ho hlk (fun x hx => ⟨(hst'.1 x hx).2, by have := (words_small x (hst'.1 x hx).1).2; omega⟩)).mono ?_
      rintro e w1 ⟨v1, rfl, ho1, hb1⟩
      have hr1 : Rdr w1 R s m := hr.kept (hb1.block R hr.lt)
      have hcl2 := cell_lt hcell
      have hcell1 : w1.heap[w.heap.size]? = some (.cells #[.int .i64 0, .int .i64 0, .string ⟨#[]⟩] 182 (0, 0)) := (hb1.block _ hcl2).trans hcell
      have hon1 : Only R w w1 := hon.trans ((Only.refl R W).drewN 1 |>.trans (Only.of_below hb1))
      have hdrop := List.drop_eq_getElem_cons (l := s.data.toList) (i := m) (by simpa using hlt)
      have hget : s.data.toList[m]'(by simpa using hlt) = s[m] := rfl
      rw [hget] at hdrop
      have HDROP := Lib.hid hdrop
      have hWs : W.heap.size ≤ W.drew.heap.size := Nat.le_refl _
      clear c0 c1 f1 hr ho hcell hb1 hon hdrop hget
      have c0 := hr1.c0
      have c1 := hr1.c1
      have f1 := hr1.f1
      have d0 := cell3_0 hcell1
      have d1 := cell3_1 hcell1
      have d2 := cell3_2 hcell1
      have e0 := cell3_f hcell1 0
      have e1 := cell3_f hcell1 1
      have e2 := cell3_f hcell1 2
      cases hol : onW lk k s[m] with
      | nil =>
        rw [hol] at ho1
        have HE : Hid (readW l 0 (s.data.toList.drop n) = (k, none)) := by
          show _ = _
          rw [HEQ.out, HDROP.out]
          simp [readW, hol]
        clear hol
        rcases ho1.2 with ⟨rfl, _⟩ | ⟨g, cap, cur, rfl, _⟩
        · go_wp2
          simp only [Exit.jump]
          refine bodyPost_ret (v := .tuple #[.agg #[.int .i64 0, .int .i64 0, .string ⟨#[]⟩], .bool false]) (by simp [results, Tryz.results150, go_sem, d0, d1, d2]) rfl ?_
          rw [HE.out]
          exact ⟨rfl, by rw [← HM.out]; exact rdr_three hr1 (Nat.ne_of_lt hRd) _ _ _, only_three hon1 _ _ _⟩
        · simp only [List.length_nil]
          go_wp2
          simp only [Exit.jump]
          refine bodyPost_ret (v := .tuple #[.agg #[.int .i64 0, .int .i64 0, .string ⟨#[]⟩], .bool false]) (by simp [results, Tryz.results150, go_sem, d0, d1, d2]) rfl ?_
          rw [HE.out]
          exact ⟨rfl, by rw [← HM.out]; exact rdr_three hr1 (Nat.ne_of_lt hRd) _ _ _, only_three hon1 _ _ _⟩
      | cons x l' =>
        rw [hol] at ho1
        have hxl : x ∈ lk := (List.mem_filter.1 (show x ∈ onW lk k s[m] by rw [hol]; exact List.mem_cons_self ..)).1
        have hx6 := words_small x (hst'.1 x hxl).1
        have hxk := (hst'.1 x hxl).2
        have HOL := Lib.hid hol
        have hll := onW_le lk k s[m]
        rw [hol] at hll
        simp only [List.length_cons] at hll
        clear hol
        rcases ho1.2 with ⟨_, hno⟩ | ⟨g, cap, cur, rfl, _, hgh, hncap, hcapm, _⟩
        · simp at hno
        have hgR : g ≠ R := by
          rintro rfl
          rw [hr1] at hgh
          injection hgh with e1
          injection e1 with e1 e2 e3
          cases e2
        have hgW := (ho1.lt g rfl).1
        have hlx : 0 < (x :: l').length := by simp
        have k0 := ho1.cellAt 0 (by simp)
        have k1 := ho1.cellAt 1 (by simp; omega)
        have k2 := ho1.cellAt 2 (by simp; omega)
        simp only [flatW, List.getElem?_cons_zero, List.getElem?_cons_succ] at k0 k1 k2
        simp only [List.length_cons] at hncap ho1 ⊢
        clear hgh
        by_cases hks : k + 1 < x.name.size
        · have hks' : ((k : Int) + 1 < (x.name.size : Int)) := by omega
          go_wp2
          go_step3
          refine ⟨rfl, ⟨k + 1, x :: l', _, _, _, _, _, _, _, _, _, _, _, _, _, _, _, _, _, _, _, _, _, _, _, _, _, _, _, _, _, _, _, _, _, _, _, _, _, _, _, _, _, _, _, _, _, _, by rw [Int.natCast_add]; rfl, ?_⟩, ?_⟩
          · exact ⟨St.step hst' HOL.out hks, Rdr.set_ hr1 _ _ (by have := HM.out; omega), by simp; omega, ⟨_, ho1.kept (Only.set_ R 1 w1 _) (.inr (by simp [Value.ownBlock, hgR]))⟩, hon1.trans (Only.set_ R 1 w1 _), (Below.heap_setCell w1 ⟨R, 1, none⟩ _ _ (by show _ ≠ R; omega)).trans hcell1, by have := HM.out; omega, by
              rw [HEQ.out, HDROP.out, ← Nat.add_assoc, ← HM.out]
              simp only [readW, HOL.out, if_pos hks]
              rw [Nat.add_right_comm, Nat.add_assoc]⟩
          · simp [intOf]; omega
        · have hks' : ¬ ((k : Int) + 1 < (x.name.size : Int)) := by omega
          have HE : Hid (readW l 0 (s.data.toList.drop n) = (k + 1, some x)) := by
            show _ = _
            rw [HEQ.out, HDROP.out]
            simp only [readW, HOL.out, if_neg hks]
          have hr2 := Rdr.set_ hr1 ((m : Int) + 1) (m + 1) (by omega)
          have hon2 := hon1.trans (Only.set_ R 1 w1 (.int .i64 ((m : Int) + 1)))
          go_wp2
          simp only [Exit.jump]
          refine bodyPost_ret (v := .tuple #[wdVal x, .bool true]) (by simp [results, Tryz.results150, go_sem, d0, d1, d2, wdVal]) rfl ?_
          rw [HE.out]
          exact ⟨rfl, by rw [← Nat.add_assoc, ← HM.out]; exact rdr_three hr2 (Nat.ne_of_lt hRd) _ _ _, only_three hon2 _ _ _⟩
    · have d0 := cell3_0 hcell
      have d1 := cell3_1 hcell
      have d2 := cell3_2 hcell
      have e0 := cell3_f hcell 0
      have e1 := cell3_f hcell 1
      have e2 := cell3_f hcell 2
      have HE : Hid (readW l 0 (s.data.toList.drop n) = (k, none)) := by
        show _ = _
        rw [HEQ.out, List.drop_of_length_le (by simp; omega)]
        simp [readW]
      go_wp2
      go_quiet (fail)
      go_wp2
      simp only [Exit.jump]
      refine bodyPost_ret (v := .tuple #[.agg #[.int .i64 0, .int .i64 0, .string ⟨#[]⟩], .bool false]) (by simp [results, Tryz.results150, go_sem, d0, d1, d2]) rfl ?_
      rw [HE.out]
      exact ⟨rfl, by rw [← HM.out]; exact rdr_three (w := w'.drewN nq) hr (Nat.ne_of_lt hRd) _ _ _, only_three (hon.drewN nq) _ _ _⟩
def aheadB (i : Nat) : UInt8 := if i = 0 then 40 else 44
def readArgs (rt : List UInt8 → Nat × Option Ty) (l : List UInt8) : Nat → Nat → Nat → List Ty → Nat × Option (List Ty)
  | 0, _, k, acc => (k, some acc)
  | left + 1, i, k, acc =>
    if (l.drop k).head? = some (aheadB i) then
      match rt (l.drop (k + 1)) with
      | (m, none) => (k + 1 + m, none)
      | (m, some a) => readArgs rt l left (i + 1) (k + 1 + m) (acc ++ [a])
    else (k, none)
def readEnd (x : Wd) (l : List UInt8) : Nat × Option (List Ty) → Nat × Option Ty
  | (k, none) => (k, none)
  | (k, some l2) =>
    if 0 < x.args then
      if (l.drop k).head? = some 41 then (k + 1, some (.mk x.kind l2)) else (k, none)
    else (k, some (.mk x.kind l2))
def readT : Nat → List UInt8 → Nat × Option Ty
  | 0, _ => (0, none)
  | r + 1, l => match readW (fitW (r + 1 : Nat) words) 0 l with
    | (k, none) => (k, none)
    | (k, some x) => readEnd x l (readArgs (readT r) l x.args.toNat 0 k [])
def TyOut (w w' : World) (r : Nat) (v : Value) : Option Ty → Prop
  | none => v = .agg #[.int .i64 0, .slice none 0 0]
  | some t => TyAt w' (fun k => w.heap.size ≤ k) r v t
theorem info24 : (Tryz.prog.info? 64).map (fun i => (i.zero, i.size, i.bytes)) = some (some (.agg #[.int .i64 0, .slice none 0 0]), 2, 32) := by kernel_rfl
theorem cells24 : Tryz.prog.cellsOf 64 = 2 := by kernel_rfl
theorem ahead_at0 : ∀ w : World, (Instr.index 9 (.string ⟨#[40, 44]⟩) (.int .i64 ((0 : Nat) : Int))).run Tryz.prog w = .ok (.int .u8 ((aheadB 0).toNat : Int)) w := fun _ => by kernel_rfl
theorem ahead_at1 : ∀ w : World, (Instr.index 9 (.string ⟨#[40, 44]⟩) (.int .i64 ((1 : Nat) : Int))).run Tryz.prog w = .ok (.int .u8 ((aheadB 1).toNat : Int)) w := fun _ => by kernel_rfl
theorem ahead_at (i : Nat) (hi : i < 2) (w : World) : (Instr.index 9 (.string ⟨#[40, 44]⟩) (.int .i64 (i : Int))).run Tryz.prog w = .ok (.int .u8 ((aheadB i).toNat : Int)) w := by
  match i, hi with
  | 0, _ => exact ahead_at0 w
  | 1, _ => exact ahead_at1 w
theorem readW_mem : ∀ (l : List UInt8) (lw : List Wd) (n : Nat) (x : Wd), (readW lw n l).2 = some x → x ∈ lw
  | [], lw, n, x, h => by simp [readW] at h
  | b :: rest, lw, n, x, h => by
    unfold readW at h
    cases ho : onW lw n b with
    | nil => simp [ho] at h
    | cons y l' =>
      have hm : ∀ z ∈ y :: l', z ∈ lw := fun z hz => (List.mem_filter.1 (show z ∈ onW lw n b by rw [ho]; exact hz)).1
      simp only [ho] at h
      split at h
      · exact hm x (readW_mem rest (y :: l') (n + 1) x h)
      · injection h with h
        subst h
        exact hm _ (List.mem_cons_self ..)
theorem readW_le : ∀ (l : List UInt8) (lw : List Wd) (n : Nat), (readW lw n l).1 ≤ l.length
  | [], lw, n => by simp [readW]
  | b :: rest, lw, n => by
    unfold readW
    cases ho : onW lw n b with
    | nil => simp
    | cons y l' =>
      have := readW_le rest (y :: l') (n + 1)
      simp only
      split
      · simp only [List.length_cons]; omega
      · simp
theorem head_lt {l : List UInt8} {k : Nat} {b : UInt8} (h : (l.drop k).head? = some b) : k < l.length := by
  rcases Nat.lt_or_ge k l.length with hlt | hge
  · exact hlt
  · rw [List.drop_of_length_le hge] at h; simp at h
theorem readArgs_le (rt : List UInt8 → Nat × Option Ty) (l : List UInt8) (hrt : ∀ l, (rt l).1 ≤ l.length) : ∀ (left i k : Nat) (acc : List Ty), k ≤ l.length → (readArgs rt l left i k acc).1 ≤ l.length
  | 0, _, k, acc, hk => hk
  | left + 1, i, k, acc, hk => by
    unfold readArgs
    split
    · rename_i hh
      have hlt := head_lt hh
      have h1 := hrt (l.drop (k + 1))
      rw [List.length_drop] at h1
      cases hr : rt (l.drop (k + 1)) with
      | mk m o =>
        rw [hr] at h1
        cases o with
        | none => simp only at h1 ⊢; omega
        | some a => exact readArgs_le rt l hrt left (i + 1) _ _ (by simp only at h1; omega)
    · exact hk
theorem readEnd_le (x : Wd) (l : List UInt8) (p : Nat × Option (List Ty)) (hp : p.1 ≤ l.length) : (readEnd x l p).1 ≤ l.length := by
  obtain ⟨k, o⟩ := p
  cases o with
  | none => exact hp
  | some l2 =>
    simp only [readEnd]
    split
    · split
      · rename_i _ hh
        exact head_lt hh
      · exact hp
    · exact hp
theorem readT_le : ∀ (r : Nat) (l : List UInt8), (readT r l).1 ≤ l.length
  | 0, l => by simp [readT]
  | r + 1, l => by
    unfold readT
    have h := readW_le l (fitW (r + 1 : Nat) words) 0
    cases hw : readW (fitW (r + 1 : Nat) words) 0 l with
    | mk k o =>
      rw [hw] at h
      cases o with
      | none => exact h
      | some x => exact readEnd_le x l _ (readArgs_le _ l (readT_le r) _ _ _ _ h)
end Go.Proofs.YtllnamhgnbdkmaaGreatDoor.Knd
