import Derived.Test.YtdoadedglpjldaaDoorProg
import Derived.WalkKit
import Derived.WalkSpells
import Derived.WalkLawsBesides
import Derived.Lib.Hide
import Derived.Outline
import Derived.Deep.LoopGhost
namespace Go.Proofs.YtdoadedglpjldaaDoor
open Go.RowKit

theorem info82 : (Tryd.prog.info? 82).map (fun i => (i.zero, i.size, i.bytes)) = some (some (.agg #[.int .i64 0, .int .i64 0, .string ByteArray.empty]), 3, 32) := by kernel_rfl
theorem cells82 : Tryd.prog.cellsOf 82 = 3 := by kernel_rfl

/-- What a kind is called, and how many Args it has. -/
structure Wd where
  kind : Int
  args : Int
  name : ByteArray

/-- The cells of a list of words. -/
def flatW : List Wd → List Value
  | [] => []
  | x :: l => .int .i64 x.kind :: .int .i64 x.args :: .string x.name :: flatW l

theorem flatW_length : ∀ l : List Wd, (flatW l).length = l.length * 3
  | [] => rfl
  | x :: l => by simp [flatW, flatW_length l]; omega

theorem flatW_append : ∀ l m : List Wd, flatW (l ++ m) = flatW l ++ flatW m
  | [], _ => rfl
  | x :: l, m => by simp [flatW, flatW_append l m]

theorem flatW_at : ∀ (l : List Wd) (k : Nat) (x : Wd), l[k]? = some x →
    (flatW l)[k * 3]? = some (.int .i64 x.kind) ∧ (flatW l)[k * 3 + 1]? = some (.int .i64 x.args) ∧ (flatW l)[k * 3 + 2]? = some (.string x.name)
  | [], k, x, h => by simp at h
  | y :: l, 0, x, h => by simp at h; subst h; simp [flatW]
  | y :: l, k + 1, x, h => by
    have h' : l[k]? = some x := by simpa using h
    obtain ⟨a, b, c⟩ := flatW_at l k x h'
    refine ⟨?_, ?_, ?_⟩
    · rw [show (k + 1) * 3 = k * 3 + 3 by omega]; simpa [flatW] using a
    · rw [show (k + 1) * 3 + 1 = k * 3 + 1 + 3 by omega]; simpa [flatW] using b
    · rw [show (k + 1) * 3 + 2 = k * 3 + 2 + 3 by omega]; simpa [flatW] using c

/-- The words whose names have this byte at this place. -/
def onW (l : List Wd) (p : Nat) (b : UInt8) : List Wd := l.filter fun x => x.name.data.toList[p]? == some b

theorem onW_snoc (l : List Wd) (x : Wd) (p : Nat) (b : UInt8) (hp : p < x.name.size) (h : x.name[p] = b) : onW (l ++ [x]) p b = onW l p b ++ [x] := by
  have e : x.name.data.toList[p]? = some b := by
    rw [List.getElem?_eq_getElem (by simpa using hp)]; exact congrArg some h
  unfold onW
  rw [List.filter_append, List.filter_cons_of_pos (by rw [e]; simp)]
  rfl

theorem onW_snoc_not (l : List Wd) (x : Wd) (p : Nat) (b : UInt8) (hp : p < x.name.size) (h : x.name[p] ≠ b) : onW (l ++ [x]) p b = onW l p b := by
  have e : x.name.data.toList[p]? ≠ some b := by
    rw [List.getElem?_eq_getElem (by simpa using hp)]
    intro he
    exact h (Option.some.inj he)
  unfold onW
  rw [List.filter_append, List.filter_cons_of_neg (by simpa using e)]
  simp

theorem onW_le (l : List Wd) (p : Nat) (b : UInt8) : (onW l p b).length ≤ l.length := List.length_filter_le _ _

theorem cell_three_new (w : World) (a b c : Value) (t : TypeId) (B : Nat) (hB : B = w.heap.size) : ∀ j u, [a, b, c][j]? = some u → (w.alloc (.cells #[a, b, c] t)).cell? ((⟨B, 0, none⟩ : Addr).add j) = some u := by
  subst hB
  intro j u hj
  match j, hj with
  | 0, hj => simp at hj; subst hj; simp [Addr.add]
  | 1, hj => simp at hj; subst hj; simp [Addr.add]
  | 2, hj => simp at hj; subst hj; simp [Addr.add]
  | j + 3, hj => simp at hj

theorem u8_beq_true {a b : UInt8} (h : a = b) : ((a.toNat : Int) == (b.toNat : Int)) = true := by simp [h]
theorem u8_beq_false {a b : UInt8} (h : a ≠ b) : ((a.toNat : Int) == (b.toNat : Int)) = false := by
  simp
  intro e
  exact h (UInt8.toNat_inj.1 (by omega))

theorem goingOn_nil (p : Int) (b : UInt8) (w : World) :
    Calls Tryd.prog 48 #[.slice none 0 0, .int .i64 p, .int .u8 b.toNat] w fun e w' => e = .returned (.slice none 0 0) ∧ w = w' := by
  go_enter Tryd.func48, Tryd.ntmps48
  go_wp2
  refine wp_loop_rounds 1 ?_
  rw [rounds_succ]
  go_wp2
  go_ret
  exact ⟨rfl, rfl⟩

set_option maxRecDepth 100000 in
set_option maxHeartbeats 400000 in
theorem goingOn_any (l : List Wd) (B : Nat) (lv : Value) (p : Nat) (b : UInt8) (w : World) (hown : w.ownsRow B 82 3 lv l.length (flatW l)) (hl : l.length ≤ 100) (hp : ∀ x ∈ l, p < x.name.size ∧ x.name.size ≤ 100) :
    Calls Tryd.prog 48 #[lv, .int .i64 (p : Int), .int .u8 b.toNat] w fun e w' => ∃ v, e = .returned v ∧ w'.ownsRow w.heap.size 82 3 v (onW l p b).length (flatW (onW l p b)) ∧ Below w.heap.size w w' := by
  obtain ⟨i0, hi, hz0, hz1, hz2⟩ := info_parts info82
  rcases hown.2 with ⟨rfl, hn⟩ | ⟨g, cap, cur, rfl, hBg, hg, hncap, hcapm, _, _⟩
  · obtain rfl : l = [] := List.eq_nil_of_length_eq_zero hn
    exact (goingOn_nil p b w).mono fun e w' ⟨he, hw⟩ => ⟨_, he, by rw [hw]; exact World.ownsRow_nil _ _ _ _, by rw [hw]; exact Below.refl _ _⟩
  · have hlt := (hown.lt g rfl).2
    unfold maxLen at hcapm
    clear hg hBg
    go_enter Tryd.func48, Tryd.ntmps48
    go_wp2
    go_loopw [7, 12] (fun v i wr => ∃ k : Nat, k ≤ l.length ∧ i = .int .i64 k ∧ wr.ownsRow w.heap.size 82 3 v (onW (l.take k) p b).length (flatW (onW (l.take k) p b)) ∧ Below w.heap.size w wr) (fun _ i _ => l.length - (intOf i).toNat)
    case atStart => exact ⟨0, Nat.zero_le _, rfl, World.ownsRow_nil _ _ _ _, Below.refl _ _⟩
    case round =>
      obtain ⟨k, hk, rfl, ho, hb⟩ := hrel
      by_cases hlk : k < l.length
      · obtain ⟨x, hx⟩ : ∃ x, l[k]? = some x := ⟨l[k], List.getElem?_eq_getElem hlk⟩
        obtain ⟨x0, x1, x2⟩ := flatW_at l k x hx
        have hlen := flatW_length l
        have c0 := (hb.cell (p := ⟨g, k * 3, none⟩) hlt).trans ((hown.cellAt (k * 3) (by omega)).trans x0)
        have c1 := (hb.cell (p := ⟨g, k * 3 + 1, none⟩) hlt).trans ((hown.cellAt (k * 3 + 1) (by omega)).trans x1)
        have c2 := (hb.cell (p := ⟨g, k * 3 + 2, none⟩) hlt).trans ((hown.cellAt (k * 3 + 2) (by omega)).trans x2)
        have hts : l.take (k + 1) = l.take k ++ [x] := by rw [List.take_add_one, hx]; rfl
        have HTS := Lib.hid hts
        obtain ⟨hpx, hp100⟩ := hp x (List.mem_of_getElem? hx)
        have hle := onW_le (l.take k) p b
        have hlt2 : (l.take k).length ≤ k := List.length_take_le _ _
        have hzb := hb.size
        clear x0 x1 x2 hx hlen hts hp
        by_cases hbb : x.name[p] = b
        · have hbt := u8_beq_true hbb
          have HBB := Lib.hid hbb
          clear hbb
          go_wp2_with (at_builtin; refine wpList_append_own _ rfl _ _ 97 rfl w.heap.size 82 i0 (.agg #[.int .i64 0, .int .i64 0, .string ByteArray.empty]) 3 32 Tryd.underlying97 hi hz0 hz1 hz2 rfl (by decide) _ _ _ rfl ((ho.alloc _).alloc _) ⟨wr.heap.size + 1, 0, none⟩ 1 1 [.int .i64 x.kind, .int .i64 x.args, .string x.name] rfl rfl ?c1 ?c2 ?c3 ?c4 ?c5 ?_)
          case c1 => exact cell_three_new _ _ _ _ _ _ (by simp)
          case c2 => intro u hu; simp at hu; rcases hu with rfl | rfl | rfl <;> rfl
          case c3 => unfold maxLen; omega
          case c4 => omega
          case c5 => simp; omega
          intro v' w1 hown1 hgrow1 _
          go_wp2
          go_roundw
          case rel =>
            refine ⟨k + 1, by omega, by go_num, ?_, ?_⟩
            · rw [HTS.out, onW_snoc _ _ _ _ hpx HBB.out, flatW_append]
              simpa [flatW] using hown1
            · refine Below.grown ((hb.alloc (by omega) _).alloc (by simp; omega) _) hgrow1 (by simp; omega) (fun j hj => (ho.lt j hj).1)
          case measure => simp [intOf]; omega
        · have hbt := u8_beq_false hbb
          have HBB := Lib.hid hbb
          clear hbb
          go_wp2
          go_roundw
          case rel =>
            refine ⟨k + 1, by omega, by go_num, ?_, hb.alloc (by omega) _⟩
            rw [HTS.out, onW_snoc_not _ _ _ _ hpx HBB.out]
            exact ho.alloc _
          case measure => simp [intOf]; omega
      · go_wp2
        go_ret
        obtain rfl : k = l.length := by omega
        rw [List.take_length] at ho
        exact ⟨_, rfl, ho, hb⟩
end Go.Proofs.YtdoadedglpjldaaDoor
