/-
The walk of the law ValueTurns: it answers true.
-/
import Derived.Test.YtjahennckibleaaAwk
import Derived.Test.YtjahennckibleaaReg
import Derived.StillTail
import Derived.Deep.DeepCutAuto
namespace Go.Proofs.Ytjahennckibleaa
open Go.RowKit

set_option maxHeartbeats 400000 in
theorem point_ex (a b : Int) (w : World) :
    Calls Try.prog 5 #[.int .i64 a, .int .i64 b] w fun e w' => e = .returned (.agg #[.int .i64 5, .int .i64 0, .string ⟨#[]⟩, .complex .f64 (fb (foldI a)) (fb (foldI b)), .slice none 0 0]) ∧ w.alloc (.cells #[.int .i64 5, .int .i64 0, .string ⟨#[]⟩, .complex .f64 (fb (foldI a)) (fb (foldI b)), .slice none 0 0] 26) = w' := by
  have c1 := toFloat_run
  go_enter Try.func5, Try.ntmps5
  go_wp2_with (first | (go_at_call 12; refine (fold_any _ _).mono ?_; rintro e w' ⟨rfl, rfl⟩))
  exact bodyPost_ret (v := .agg #[.int .i64 5, .int .i64 0, .string ⟨#[]⟩, .complex .f64 (fb (foldI a)) (fb (foldI b)), .slice none 0 0]) (by simp [results, Try.results5, go_sem]) rfl ⟨rfl, rfl⟩

theorem tmod_bd (a b : Int) (hb : 0 < b) : -b < a.tmod b ∧ a.tmod b < b := by
  have h1 := Int.tmod_lt_of_pos a hb
  have h2 := Int.tmod_lt_of_pos (-a) hb
  rw [Int.neg_tmod] at h2
  omega

theorem fold_turn (n k : Int) : foldI (n + k * 2097152) = foldI n := by unfold foldI; omega
theorem fold_turn' (n k : Int) : foldI (n - k * 2097152) = foldI n := by unfold foldI; omega

/-- What the first statement of the law that makes points leaves: two variables at X and at Y that hold the same point, beside the arguments' own. -/
def Made (w0 : World) (P Q r s A B : Int) (v8 v9 : Value) (w : World) : Prop :=
  ∃ X Y : Nat, v8 = .pointer (some ⟨X, 0, none⟩) ∧ v9 = .pointer (some ⟨Y, 0, none⟩) ∧ Five w X 0 5 (fb A) (fb B) ∧ Five w Y 0 5 (fb A) (fb B) ∧ X < w.heap.size ∧ Y < w.heap.size ∧
    w.cell? ⟨w0.heap.size, 0, none⟩ = some (.int .i64 P) ∧ w.cell? ⟨w0.heap.size, 1, none⟩ = some (.int .i64 Q) ∧ w.cell? ⟨w0.heap.size + 1, 0, none⟩ = some (.int .i64 r) ∧ w.cell? ⟨w0.heap.size + 1, 1, none⟩ = some (.int .i64 s) ∧ Below w0.heap.size w0 w ∧ w0.heap.size + 1 < w.heap.size

theorem wp_abs {P : Program} {c : Code} {Q : Exit → Act → World → Prop} {a : Act} {W : World} (F : World → Prop) (h : F W) (k : ∀ w', F w' → c.wp P Q a w') : c.wp P Q a W := k W h

/-- The two arguments lie in the first two new blocks. -/
def Args (w0 : World) (P Q r s : Int) (w : World) : Prop :=
  w.cell? ⟨w0.heap.size, 0, none⟩ = some (.int .i64 P) ∧ w.cell? ⟨w0.heap.size, 1, none⟩ = some (.int .i64 Q) ∧ w.cell? ⟨w0.heap.size + 1, 0, none⟩ = some (.int .i64 r) ∧ w.cell? ⟨w0.heap.size + 1, 1, none⟩ = some (.int .i64 s) ∧ Below w0.heap.size w0 w ∧ w0.heap.size + 1 < w.heap.size

theorem Args.start (w : World) (P Q r s : Int) (t u : TypeId) : Args w P Q r s ((w.alloc (.cells #[.int .i64 P, .int .i64 Q] t)).alloc (.cells #[.int .i64 r, .int .i64 s] u)) := by
  refine ⟨?_, ?_, ?_, ?_, (((Below.refl _ _).alloc (Nat.le_refl _) _).alloc (by simp) _), by simp⟩ <;> go_simp

/-- u points to a variable that the law has made; it may be written; if 'done', the point of A and B lies there. -/
def Var (w0 : World) (A B : Int) (u : Value) (done : Prop) (w : World) : Prop :=
  ∃ X : Nat, u = .pointer (some ⟨X, 0, none⟩) ∧ w0.heap.size + 1 < X ∧ X < w.heap.size ∧ Soft w X ∧ (∃ k x y, Five w X 0 k x y) ∧ (done → Five w X 0 5 (fb A) (fb B))

theorem Var.below {w0 w w' : World} {A B : Int} {u : Value} {d : Prop} (h : Var w0 A B u d w) (hb : Below w.heap.size w w') : Var w0 A B u d w' := by
  obtain ⟨X, e, h1, h2, h3, ⟨k, x, y, h4⟩, h5⟩ := h
  exact ⟨X, e, h1, Nat.lt_of_lt_of_le h2 hb.size, h3.below hb h2, ⟨k, x, y, h4.below hb h2⟩, fun hd => (h5 hd).below hb h2⟩

theorem Var.weaken {w0 w : World} {A B : Int} {u : Value} {d d' : Prop} (h : Var w0 A B u d w) (hd : d' → d) : Var w0 A B u d' w := by
  obtain ⟨X, e, h1, h2, h3, h4, h5⟩ := h
  exact ⟨X, e, h1, h2, h3, h4, fun h => h5 (hd h)⟩

theorem Var.new {w0 w : World} {A B : Int} {d : Prop} (h : w0.heap.size + 1 < w.heap.size) (hd : ¬ d) :
    Var w0 A B (.pointer (some ⟨w.heap.size, 0, none⟩)) d (w.alloc (.cells #[.int .i64 0, .int .i64 0, .string ⟨#[]⟩, .complex .f64 0 0, .slice none 0 0] 26)) := by
  refine ⟨_, rfl, h, by simp, ?_, ⟨_, _, _, Five.new w 0 0 0 26⟩, fun h => absurd h hd⟩
  unfold Soft
  go_simp

theorem Var.other {w0 w : World} {A B : Int} {u : Value} {d : Prop} (h : Var w0 A B u d w) {Z : Nat} (hZ : u ≠ .pointer (some ⟨Z, 0, none⟩)) (i : Nat) (z : Value) : Var w0 A B u d (w.setCell ⟨Z, i, none⟩ z) := by
  obtain ⟨X, rfl, h1, h2, h3, ⟨k, x, y, h4⟩, h5⟩ := h
  have hn : X ≠ Z := fun e => hZ (by rw [e])
  exact ⟨X, rfl, h1, by simpa using h2, h3.setCell _, ⟨k, x, y, h4.setCell hn _⟩, fun hd => (h5 hd).setCell hn _⟩

/-- A point is stored at Z. -/
def put5 (w : World) (Z : Nat) (A B : Int) : World :=
  ((((w.setCell ⟨Z, 0, none⟩ (.int .i64 5)).setCell ⟨Z, 1, none⟩ (.int .i64 0)).setCell ⟨Z, 2, none⟩ (.string ⟨#[]⟩)).setCell ⟨Z, 3, none⟩ (.complex .f64 (fb A) (fb B))).setCell ⟨Z, 4, none⟩ (.slice none 0 0)

theorem Var.put_other {w0 w : World} {A B A' B' : Int} {u : Value} {d : Prop} (h : Var w0 A B u d w) {Z : Nat} (hZ : u ≠ .pointer (some ⟨Z, 0, none⟩)) : Var w0 A B u d (put5 w Z A' B') :=
  ((((h.other hZ _ _).other hZ _ _).other hZ _ _).other hZ _ _).other hZ _ _

theorem Var.put_self {w0 w : World} {A B : Int} {Z : Nat} {d d' : Prop} (h : Var w0 A B (.pointer (some ⟨Z, 0, none⟩)) d w) : Var w0 A B (.pointer (some ⟨Z, 0, none⟩)) d' (put5 w Z A B) := by
  obtain ⟨X, e, h1, h2, h3, ⟨k, x, y, h4⟩, h5⟩ := h
  cases e
  have hs := h4.stored (k' := 5) (s := fb A) (t := fb B)
  exact ⟨Z, rfl, h1, by unfold put5; simpa using h2, ((((h3.setCell _).setCell _).setCell _).setCell _).setCell _, ⟨_, _, _, hs⟩, fun _ => hs⟩

theorem Args.below {w0 w w' : World} {P Q r s : Int} (h : Args w0 P Q r s w) (hb : Below w.heap.size w w') : Args w0 P Q r s w' := by
  obtain ⟨h0, h1, h2, h3, h4, h5⟩ := h
  obtain ⟨hc, _⟩ := bcell hb
  have := hb.size
  exact ⟨by rw [hc _ _ (by omega)]; exact h0, by rw [hc _ _ (by omega)]; exact h1, by rw [hc _ _ (by omega)]; exact h2, by rw [hc _ _ (by omega)]; exact h3, h4.trans (hb.mono (by omega)), by omega⟩

theorem Args.set {w0 w : World} {P Q r s : Int} (h : Args w0 P Q r s w) {Z : Nat} (hZ : w0.heap.size + 1 < Z) (i : Nat) (z : Value) : Args w0 P Q r s (w.setCell ⟨Z, i, none⟩ z) := by
  obtain ⟨h0, h1, h2, h3, h4, h5⟩ := h
  have n0 : ∀ o, (⟨w0.heap.size, o, none⟩ : Addr) ≠ ⟨Z, i, none⟩ := fun o e => by cases e; omega
  have n1 : ∀ o, (⟨w0.heap.size + 1, o, none⟩ : Addr) ≠ ⟨Z, i, none⟩ := fun o e => by cases e; omega
  refine ⟨?_, ?_, ?_, ?_, h4.setCell (by simp; omega) _, by simpa using h5⟩
  · rw [World.cell?_setCell_other _ _ _ _ (fun e => n0 _ e.symm)]; exact h0
  · rw [World.cell?_setCell_other _ _ _ _ (fun e => n0 _ e.symm)]; exact h1
  · rw [World.cell?_setCell_other _ _ _ _ (fun e => n1 _ e.symm)]; exact h2
  · rw [World.cell?_setCell_other _ _ _ _ (fun e => n1 _ e.symm)]; exact h3

theorem Args.put {w0 w : World} {P Q r s : Int} (h : Args w0 P Q r s w) {Z : Nat} {A B : Int} (hZ : w0.heap.size + 1 < Z) : Args w0 P Q r s (put5 w Z A B) :=
  ((((h.set hZ _ _).set hZ _ _).set hZ _ _).set hZ _ _).set hZ _ _

theorem Args.roomy {w0 w : World} {P Q r s : Int} (h : Args w0 P Q r s w) : w0.heap.size + 1 < w.heap.size := h.2.2.2.2.2

theorem Var.apart {w0 w : World} {A B : Int} {u : Value} {d : Prop} (h : Var w0 A B u d w) : .pointer (some ⟨w.heap.size, 0, none⟩) ≠ u := by
  obtain ⟨X, rfl, _, h2, _⟩ := h
  intro e
  cases e
  omega

theorem wrap_mod (n : Int) : foldI (IntKind.i64.wrap n) = foldI n := by
  unfold foldI
  simp only [IntKind.wrap, IntKind.bits, IntKind.signed]
  simp
  omega
theorem fold_turn1 (n k : Int) : foldI (IntKind.i64.wrap (n + k * 2097152)) = foldI n := by rw [wrap_mod]; exact fold_turn n k
theorem fold_turn2 (n k : Int) : foldI (IntKind.i64.wrap (n - k * 2097152)) = foldI n := by rw [wrap_mod]; exact fold_turn' n k

/-- What the law goes on with: the point x at X, and the arguments. -/
def KeptT (w0 : World) (P Q r s A B : Int) (X : Nat) (w : World) : Prop := Five w X 0 5 (fb A) (fb B) ∧ X < w.heap.size ∧ Args w0 P Q r s w

theorem KeptT.below {w0 w w' : World} {P Q r s A B : Int} {X : Nat} (h : KeptT w0 P Q r s A B X w) (hb : Below w.heap.size w w') : KeptT w0 P Q r s A B X w' :=
  ⟨h.1.below hb h.2.1, Nat.lt_of_lt_of_le h.2.1 hb.size, h.2.2.below hb⟩

theorem sub_fold (P : Int) : (P - foldI P).tmod 2097152 = 0 := by
  refine Int.tmod_eq_zero_of_dvd ⟨(P + 1048576) / 2097152, ?_⟩
  unfold foldI
  omega

theorem sgnOf_zero (a b : Int) : sgnOf a b = 0 ↔ a = b := by
  unfold sgnOf
  split
  · omega
  · split <;> omega

theorem ordI_zero (a b c d : Int) : ordI a b c d = 0 ↔ a = c ∧ b = d := by
  unfold ordI orVal
  split
  · rename_i h
    rw [sgnOf_zero] at h ⊢
    exact ⟨fun e => ⟨h, e⟩, fun e => e.2⟩
  · rename_i h
    exact ⟨fun e => absurd e h, fun e => absurd ((sgnOf_zero _ _).2 e.1) h⟩

theorem ordI_self (a b : Int) : ordI a b a b = 0 := (ordI_zero a b a b).2 ⟨rfl, rfl⟩

/-- The frame at the statement that makes the two points. -/
def FrT (w0 : World) (p q r s t T P Q : Int) (u8 u9 u31 u32 u33 u34 u35 u36 u37 u38 u39 u40 u41 u42 u43 u44 : Value) : Act :=
  { tmps := #[.agg #[.int .i64 p, .int .i64 q], .agg #[.int .i64 r, .int .i64 s], .int .i64 t, .pointer (some ⟨w0.heap.size, 0, none⟩), .pointer (some ⟨w0.heap.size + 1, 0, none⟩), undef, .bool false, .int .i64 (T * 2097152), u8, u9, undef, undef, undef, undef, undef, undef, undef, undef, undef, undef, undef, .int .i64 t, .int .i64 T, .int .i64 (T * 2097152), .pointer (some ⟨w0.heap.size, 0, none⟩), .int .i64 p, .int .i64 P, .pointer (some ⟨w0.heap.size, 1, none⟩), .int .i64 q, .int .i64 Q, .agg #[.int .i64 P, .int .i64 Q], u31, u32, u33, u34, u35, u36, u37, u38, u39, u40, u41, u42, u43, u44, undef, undef, undef, undef, undef, undef, undef, undef, undef, undef, undef, undef, undef, undef, undef, undef, undef, undef, undef, undef, undef, undef, undef, undef, undef, undef, undef, undef, undef, undef, undef, undef, undef, undef, undef, undef, undef, undef, undef, undef, undef, undef, undef, undef, undef, undef, undef, undef, undef, undef, undef, undef, undef, undef, undef, undef, undef, undef, undef, undef, undef, undef, undef, undef, undef, undef, undef, undef, undef, undef, undef, undef, undef, undef, undef, undef, undef, undef, undef, undef, undef, undef, undef, undef, undef], defers := [] }

/-- What holds between the operations of the statement that makes the two points. -/
def InvT (w0 : World) (p q r s t T P Q : Int) (l : Array Bool) (a : Act) (w : World) : Prop :=
  l.size = 18 ∧ ∃ u8 u9 u31 u32 u33 u34 u35 u36 u37 u38 u39 u40 u41 u42 u43 u44, a = FrT w0 p q r s t T P Q u8 u9 u31 u32 u33 u34 u35 u36 u37 u38 u39 u40 u41 u42 u43 u44 ∧
    (l.getD 0 false = true → u31 = .pointer (some ⟨w0.heap.size, 0, none⟩)) ∧ (l.getD 1 false = true → u32 = .int .i64 P) ∧ (l.getD 2 false = true → u33 = .pointer (some ⟨w0.heap.size, 1, none⟩)) ∧ (l.getD 3 false = true → u34 = .int .i64 Q) ∧ (l.getD 4 false = true → u35 = .agg #[.int .i64 5, .int .i64 0, .string ⟨#[]⟩, .complex .f64 (fb (foldI P)) (fb (foldI Q)), .slice none 0 0]) ∧ (l.getD 5 false = true → u36 = .pointer (some ⟨w0.heap.size, 0, none⟩)) ∧ (l.getD 6 false = true → u37 = .int .i64 P) ∧ (l.getD 7 false = true → u38 = .int .i64 (T * 2097152)) ∧ (l.getD 8 false = true → u39 = .int .i64 (IntKind.i64.wrap (P + T * 2097152))) ∧ (l.getD 9 false = true → u40 = .pointer (some ⟨w0.heap.size, 1, none⟩)) ∧ (l.getD 10 false = true → u41 = .int .i64 Q) ∧ (l.getD 11 false = true → u42 = .int .i64 (T * 2097152)) ∧ (l.getD 12 false = true → u43 = .int .i64 (IntKind.i64.wrap (Q - T * 2097152))) ∧ (l.getD 13 false = true → u44 = .agg #[.int .i64 5, .int .i64 0, .string ⟨#[]⟩, .complex .f64 (fb (foldI P)) (fb (foldI Q)), .slice none 0 0]) ∧
    (l.getD 16 false = true → l.getD 14 false = true) ∧ (l.getD 17 false = true → l.getD 15 false = true) ∧ Args w0 P Q r s w ∧ (l.getD 14 false = true → Var w0 (foldI P) (foldI Q) u8 (l.getD 16 false = true) w) ∧ (l.getD 15 false = true → Var w0 (foldI P) (foldI Q) u9 (l.getD 17 false = true) w) ∧ (l.getD 14 false = true → l.getD 15 false = true → u8 ≠ u9)

set_option maxRecDepth 100000 in
set_option maxHeartbeats 3200000 in
theorem turns_true (p q r s t : Int) (w : World) :
    Calls Try.prog 4 #[.agg #[.int .i64 p, .int .i64 q], .agg #[.int .i64 r, .int .i64 s], .int .i64 t] w fun e w' => e = .returned (.bool true) ∧ Below w.heap.size w w' := by
  obtain ⟨T, hT⟩ : ∃ T, t.tmod 1000 = T := ⟨_, rfl⟩
  obtain ⟨P, hP⟩ : ∃ P, p.tmod 1099511627776 = P := ⟨_, rfl⟩
  obtain ⟨Q, hQ⟩ : ∃ Q, q.tmod 1099511627776 = Q := ⟨_, rfl⟩
  have T1 : -999 ≤ T ∧ T ≤ 999 := by have := tmod_bd t 1000 (by omega); omega
  have P1 : -1099511627775 ≤ P ∧ P ≤ 1099511627775 := by have := tmod_bd p 1099511627776 (by omega); omega
  have Q1 : -1099511627775 ≤ Q ∧ Q ≤ 1099511627775 := by have := tmod_bd q 1099511627776 (by omega); omega
  obtain ⟨T1, T2⟩ := T1
  obtain ⟨P1, P2⟩ := P1
  obtain ⟨Q1, Q2⟩ := Q1
  go_enter Try.func4, Try.ntmps4
  go_upto_region 3 with fail
  clear hT hP hQ
  refine wp_abs (Args w P Q r s) (Args.start w P Q r s 22 22) ?_
  intro W hA
  go_cut [8, 9] (fun s8 s9 wx => Made w P Q r s (foldI P) (foldI Q) s8 s9 wx)
  case first =>
    refine region_inv (InvT w p q r s t T P Q) (by kernel_rfl) (by kernel_rfl) ?_ ?_ ?_ ?_
    · exact ⟨rfl, undef, undef, undef, undef, undef, undef, undef, undef, undef, undef, undef, undef, undef, undef, undef, undef, rfl, by simp, by simp, by simp, by simp, by simp, by simp, by simp, by simp, by simp, by simp, by simp, by simp, by simp, by simp, by simp, by simp, hA.below (Below.refl _ _).drew, by simp, by simp, by simp⟩
    · intro l a w' h
      exact h.1
    · refine ⟨?_, ?_, ?_, ?_, ?_, ?_, ?_, ?_, ?_, ?_, ?_, ?_, ?_, ?_, ?_, ?_, ?_, ?_, trivial⟩
      · intro l a w' hI hn hall K hK
        obtain ⟨hz, u8, u9, u31, u32, u33, u34, u35, u36, u37, u38, u39, u40, u41, u42, u43, u44, rfl, hR⟩ := hI
        have hzh := Lib.hid hz
        have hnh := Lib.hid hn
        have HR := Lib.hid hR
        obtain ⟨h0, h1, h2, h3, h4, h5, h6, h7, h8, h9, h10, h11, h12, h13, c14, c15, hA, v14, v15, n14_15⟩ := hR
        clear hz hn hall h0 h1 h2 h3 h4 h5 h6 h7 h8 h9 h10 h11 h12 h13 c14 c15 v14 v15 n14_15
        clear hA
        unfold FrT
        go_simp
        refine hK _ _ ⟨by simpa using hzh.out, _, _, _, _, _, _, _, _, _, _, _, _, _, _, _, _, rfl, ?_⟩
        obtain ⟨h0, h1, h2, h3, h4, h5, h6, h7, h8, h9, h10, h11, h12, h13, c14, c15, hA, v14, v15, n14_15⟩ := HR.out
        exact ⟨fun _ => rfl, fun h => h1 ((done_set_ne (l := l) (i := 0) (j := 1) (by decide)).symm.trans h), fun h => h2 ((done_set_ne (l := l) (i := 0) (j := 2) (by decide)).symm.trans h), fun h => h3 ((done_set_ne (l := l) (i := 0) (j := 3) (by decide)).symm.trans h), fun h => h4 ((done_set_ne (l := l) (i := 0) (j := 4) (by decide)).symm.trans h), fun h => h5 ((done_set_ne (l := l) (i := 0) (j := 5) (by decide)).symm.trans h), fun h => h6 ((done_set_ne (l := l) (i := 0) (j := 6) (by decide)).symm.trans h), fun h => h7 ((done_set_ne (l := l) (i := 0) (j := 7) (by decide)).symm.trans h), fun h => h8 ((done_set_ne (l := l) (i := 0) (j := 8) (by decide)).symm.trans h), fun h => h9 ((done_set_ne (l := l) (i := 0) (j := 9) (by decide)).symm.trans h), fun h => h10 ((done_set_ne (l := l) (i := 0) (j := 10) (by decide)).symm.trans h), fun h => h11 ((done_set_ne (l := l) (i := 0) (j := 11) (by decide)).symm.trans h), fun h => h12 ((done_set_ne (l := l) (i := 0) (j := 12) (by decide)).symm.trans h), fun h => h13 ((done_set_ne (l := l) (i := 0) (j := 13) (by decide)).symm.trans h), fun h => (done_set_ne (l := l) (i := 0) (j := 14) (by decide)).trans (c14 ((done_set_ne (l := l) (i := 0) (j := 16) (by decide)).symm.trans h)), fun h => (done_set_ne (l := l) (i := 0) (j := 15) (by decide)).trans (c15 ((done_set_ne (l := l) (i := 0) (j := 17) (by decide)).symm.trans h)), hA, fun h => ((v14 ((done_set_ne (l := l) (i := 0) (j := 14) (by decide)).symm.trans h))).weaken (fun h => ((done_set_ne (l := l) (i := 0) (j := 16) (by decide)).symm.trans h)), fun h => ((v15 ((done_set_ne (l := l) (i := 0) (j := 15) (by decide)).symm.trans h))).weaken (fun h => ((done_set_ne (l := l) (i := 0) (j := 17) (by decide)).symm.trans h)), fun h h2 => n14_15 ((done_set_ne (l := l) (i := 0) (j := 14) (by decide)).symm.trans h) ((done_set_ne (l := l) (i := 0) (j := 15) (by decide)).symm.trans h2)⟩
      · intro l a w' hI hn hall K hK
        obtain ⟨hz, u8, u9, u31, u32, u33, u34, u35, u36, u37, u38, u39, u40, u41, u42, u43, u44, rfl, hR⟩ := hI
        have hzh := Lib.hid hz
        have hnh := Lib.hid hn
        have HR := Lib.hid hR
        obtain ⟨h0, h1, h2, h3, h4, h5, h6, h7, h8, h9, h10, h11, h12, h13, c14, c15, hA, v14, v15, n14_15⟩ := hR
        have e0 := h0 (hall { on := 0, ground := Ground.data } (by simp) rfl)
        clear hz hn hall h0 h1 h2 h3 h4 h5 h6 h7 h8 h9 h10 h11 h12 h13 c14 c15 v14 v15 n14_15
        obtain ⟨a0, a1, _⟩ := hA
        subst e0
        unfold FrT
        go_simp
        refine hK _ _ ⟨by simpa using hzh.out, _, _, _, _, _, _, _, _, _, _, _, _, _, _, _, _, rfl, ?_⟩
        obtain ⟨h0, h1, h2, h3, h4, h5, h6, h7, h8, h9, h10, h11, h12, h13, c14, c15, hA, v14, v15, n14_15⟩ := HR.out
        exact ⟨fun h => h0 ((done_set_ne (l := l) (i := 1) (j := 0) (by decide)).symm.trans h), fun _ => rfl, fun h => h2 ((done_set_ne (l := l) (i := 1) (j := 2) (by decide)).symm.trans h), fun h => h3 ((done_set_ne (l := l) (i := 1) (j := 3) (by decide)).symm.trans h), fun h => h4 ((done_set_ne (l := l) (i := 1) (j := 4) (by decide)).symm.trans h), fun h => h5 ((done_set_ne (l := l) (i := 1) (j := 5) (by decide)).symm.trans h), fun h => h6 ((done_set_ne (l := l) (i := 1) (j := 6) (by decide)).symm.trans h), fun h => h7 ((done_set_ne (l := l) (i := 1) (j := 7) (by decide)).symm.trans h), fun h => h8 ((done_set_ne (l := l) (i := 1) (j := 8) (by decide)).symm.trans h), fun h => h9 ((done_set_ne (l := l) (i := 1) (j := 9) (by decide)).symm.trans h), fun h => h10 ((done_set_ne (l := l) (i := 1) (j := 10) (by decide)).symm.trans h), fun h => h11 ((done_set_ne (l := l) (i := 1) (j := 11) (by decide)).symm.trans h), fun h => h12 ((done_set_ne (l := l) (i := 1) (j := 12) (by decide)).symm.trans h), fun h => h13 ((done_set_ne (l := l) (i := 1) (j := 13) (by decide)).symm.trans h), fun h => (done_set_ne (l := l) (i := 1) (j := 14) (by decide)).trans (c14 ((done_set_ne (l := l) (i := 1) (j := 16) (by decide)).symm.trans h)), fun h => (done_set_ne (l := l) (i := 1) (j := 15) (by decide)).trans (c15 ((done_set_ne (l := l) (i := 1) (j := 17) (by decide)).symm.trans h)), hA, fun h => ((v14 ((done_set_ne (l := l) (i := 1) (j := 14) (by decide)).symm.trans h))).weaken (fun h => ((done_set_ne (l := l) (i := 1) (j := 16) (by decide)).symm.trans h)), fun h => ((v15 ((done_set_ne (l := l) (i := 1) (j := 15) (by decide)).symm.trans h))).weaken (fun h => ((done_set_ne (l := l) (i := 1) (j := 17) (by decide)).symm.trans h)), fun h h2 => n14_15 ((done_set_ne (l := l) (i := 1) (j := 14) (by decide)).symm.trans h) ((done_set_ne (l := l) (i := 1) (j := 15) (by decide)).symm.trans h2)⟩
      · intro l a w' hI hn hall K hK
        obtain ⟨hz, u8, u9, u31, u32, u33, u34, u35, u36, u37, u38, u39, u40, u41, u42, u43, u44, rfl, hR⟩ := hI
        have hzh := Lib.hid hz
        have hnh := Lib.hid hn
        have HR := Lib.hid hR
        obtain ⟨h0, h1, h2, h3, h4, h5, h6, h7, h8, h9, h10, h11, h12, h13, c14, c15, hA, v14, v15, n14_15⟩ := hR
        clear hz hn hall h0 h1 h2 h3 h4 h5 h6 h7 h8 h9 h10 h11 h12 h13 c14 c15 v14 v15 n14_15
        clear hA
        unfold FrT
        go_simp
        refine hK _ _ ⟨by simpa using hzh.out, _, _, _, _, _, _, _, _, _, _, _, _, _, _, _, _, rfl, ?_⟩
        obtain ⟨h0, h1, h2, h3, h4, h5, h6, h7, h8, h9, h10, h11, h12, h13, c14, c15, hA, v14, v15, n14_15⟩ := HR.out
        exact ⟨fun h => h0 ((done_set_ne (l := l) (i := 2) (j := 0) (by decide)).symm.trans h), fun h => h1 ((done_set_ne (l := l) (i := 2) (j := 1) (by decide)).symm.trans h), fun _ => rfl, fun h => h3 ((done_set_ne (l := l) (i := 2) (j := 3) (by decide)).symm.trans h), fun h => h4 ((done_set_ne (l := l) (i := 2) (j := 4) (by decide)).symm.trans h), fun h => h5 ((done_set_ne (l := l) (i := 2) (j := 5) (by decide)).symm.trans h), fun h => h6 ((done_set_ne (l := l) (i := 2) (j := 6) (by decide)).symm.trans h), fun h => h7 ((done_set_ne (l := l) (i := 2) (j := 7) (by decide)).symm.trans h), fun h => h8 ((done_set_ne (l := l) (i := 2) (j := 8) (by decide)).symm.trans h), fun h => h9 ((done_set_ne (l := l) (i := 2) (j := 9) (by decide)).symm.trans h), fun h => h10 ((done_set_ne (l := l) (i := 2) (j := 10) (by decide)).symm.trans h), fun h => h11 ((done_set_ne (l := l) (i := 2) (j := 11) (by decide)).symm.trans h), fun h => h12 ((done_set_ne (l := l) (i := 2) (j := 12) (by decide)).symm.trans h), fun h => h13 ((done_set_ne (l := l) (i := 2) (j := 13) (by decide)).symm.trans h), fun h => (done_set_ne (l := l) (i := 2) (j := 14) (by decide)).trans (c14 ((done_set_ne (l := l) (i := 2) (j := 16) (by decide)).symm.trans h)), fun h => (done_set_ne (l := l) (i := 2) (j := 15) (by decide)).trans (c15 ((done_set_ne (l := l) (i := 2) (j := 17) (by decide)).symm.trans h)), hA, fun h => ((v14 ((done_set_ne (l := l) (i := 2) (j := 14) (by decide)).symm.trans h))).weaken (fun h => ((done_set_ne (l := l) (i := 2) (j := 16) (by decide)).symm.trans h)), fun h => ((v15 ((done_set_ne (l := l) (i := 2) (j := 15) (by decide)).symm.trans h))).weaken (fun h => ((done_set_ne (l := l) (i := 2) (j := 17) (by decide)).symm.trans h)), fun h h2 => n14_15 ((done_set_ne (l := l) (i := 2) (j := 14) (by decide)).symm.trans h) ((done_set_ne (l := l) (i := 2) (j := 15) (by decide)).symm.trans h2)⟩
      · intro l a w' hI hn hall K hK
        obtain ⟨hz, u8, u9, u31, u32, u33, u34, u35, u36, u37, u38, u39, u40, u41, u42, u43, u44, rfl, hR⟩ := hI
        have hzh := Lib.hid hz
        have hnh := Lib.hid hn
        have HR := Lib.hid hR
        obtain ⟨h0, h1, h2, h3, h4, h5, h6, h7, h8, h9, h10, h11, h12, h13, c14, c15, hA, v14, v15, n14_15⟩ := hR
        have e2 := h2 (hall { on := 2, ground := Ground.data } (by simp) rfl)
        clear hz hn hall h0 h1 h2 h3 h4 h5 h6 h7 h8 h9 h10 h11 h12 h13 c14 c15 v14 v15 n14_15
        obtain ⟨a0, a1, _⟩ := hA
        subst e2
        unfold FrT
        go_simp
        refine hK _ _ ⟨by simpa using hzh.out, _, _, _, _, _, _, _, _, _, _, _, _, _, _, _, _, rfl, ?_⟩
        obtain ⟨h0, h1, h2, h3, h4, h5, h6, h7, h8, h9, h10, h11, h12, h13, c14, c15, hA, v14, v15, n14_15⟩ := HR.out
        exact ⟨fun h => h0 ((done_set_ne (l := l) (i := 3) (j := 0) (by decide)).symm.trans h), fun h => h1 ((done_set_ne (l := l) (i := 3) (j := 1) (by decide)).symm.trans h), fun h => h2 ((done_set_ne (l := l) (i := 3) (j := 2) (by decide)).symm.trans h), fun _ => rfl, fun h => h4 ((done_set_ne (l := l) (i := 3) (j := 4) (by decide)).symm.trans h), fun h => h5 ((done_set_ne (l := l) (i := 3) (j := 5) (by decide)).symm.trans h), fun h => h6 ((done_set_ne (l := l) (i := 3) (j := 6) (by decide)).symm.trans h), fun h => h7 ((done_set_ne (l := l) (i := 3) (j := 7) (by decide)).symm.trans h), fun h => h8 ((done_set_ne (l := l) (i := 3) (j := 8) (by decide)).symm.trans h), fun h => h9 ((done_set_ne (l := l) (i := 3) (j := 9) (by decide)).symm.trans h), fun h => h10 ((done_set_ne (l := l) (i := 3) (j := 10) (by decide)).symm.trans h), fun h => h11 ((done_set_ne (l := l) (i := 3) (j := 11) (by decide)).symm.trans h), fun h => h12 ((done_set_ne (l := l) (i := 3) (j := 12) (by decide)).symm.trans h), fun h => h13 ((done_set_ne (l := l) (i := 3) (j := 13) (by decide)).symm.trans h), fun h => (done_set_ne (l := l) (i := 3) (j := 14) (by decide)).trans (c14 ((done_set_ne (l := l) (i := 3) (j := 16) (by decide)).symm.trans h)), fun h => (done_set_ne (l := l) (i := 3) (j := 15) (by decide)).trans (c15 ((done_set_ne (l := l) (i := 3) (j := 17) (by decide)).symm.trans h)), hA, fun h => ((v14 ((done_set_ne (l := l) (i := 3) (j := 14) (by decide)).symm.trans h))).weaken (fun h => ((done_set_ne (l := l) (i := 3) (j := 16) (by decide)).symm.trans h)), fun h => ((v15 ((done_set_ne (l := l) (i := 3) (j := 15) (by decide)).symm.trans h))).weaken (fun h => ((done_set_ne (l := l) (i := 3) (j := 17) (by decide)).symm.trans h)), fun h h2 => n14_15 ((done_set_ne (l := l) (i := 3) (j := 14) (by decide)).symm.trans h) ((done_set_ne (l := l) (i := 3) (j := 15) (by decide)).symm.trans h2)⟩
      · intro l a w' hI hn hall K hK
        obtain ⟨hz, u8, u9, u31, u32, u33, u34, u35, u36, u37, u38, u39, u40, u41, u42, u43, u44, rfl, hR⟩ := hI
        have hzh := Lib.hid hz
        have hnh := Lib.hid hn
        have HR := Lib.hid hR
        obtain ⟨h0, h1, h2, h3, h4, h5, h6, h7, h8, h9, h10, h11, h12, h13, c14, c15, hA, v14, v15, n14_15⟩ := hR
        have e1 := h1 (hall { on := 1, ground := Ground.data } (by simp) rfl)
        have e3 := h3 (hall { on := 3, ground := Ground.data } (by simp) rfl)
        clear hz hn hall h0 h1 h2 h3 h4 h5 h6 h7 h8 h9 h10 h11 h12 h13 c14 c15 v14 v15 n14_15
        clear hA
        subst e1
        subst e3
        unfold FrT
        go_simp
        refine (point_any _ _ _).mono ?_
        rintro e w2 ⟨rfl, hb⟩
        refine hK _ _ ⟨by simpa using hzh.out, _, _, _, _, _, _, _, _, _, _, _, _, _, _, _, _, rfl, ?_⟩
        obtain ⟨h0, h1, h2, h3, h4, h5, h6, h7, h8, h9, h10, h11, h12, h13, c14, c15, hA, v14, v15, n14_15⟩ := HR.out
        exact ⟨fun h => h0 ((done_set_ne (l := l) (i := 4) (j := 0) (by decide)).symm.trans h), fun h => h1 ((done_set_ne (l := l) (i := 4) (j := 1) (by decide)).symm.trans h), fun h => h2 ((done_set_ne (l := l) (i := 4) (j := 2) (by decide)).symm.trans h), fun h => h3 ((done_set_ne (l := l) (i := 4) (j := 3) (by decide)).symm.trans h), fun _ => rfl, fun h => h5 ((done_set_ne (l := l) (i := 4) (j := 5) (by decide)).symm.trans h), fun h => h6 ((done_set_ne (l := l) (i := 4) (j := 6) (by decide)).symm.trans h), fun h => h7 ((done_set_ne (l := l) (i := 4) (j := 7) (by decide)).symm.trans h), fun h => h8 ((done_set_ne (l := l) (i := 4) (j := 8) (by decide)).symm.trans h), fun h => h9 ((done_set_ne (l := l) (i := 4) (j := 9) (by decide)).symm.trans h), fun h => h10 ((done_set_ne (l := l) (i := 4) (j := 10) (by decide)).symm.trans h), fun h => h11 ((done_set_ne (l := l) (i := 4) (j := 11) (by decide)).symm.trans h), fun h => h12 ((done_set_ne (l := l) (i := 4) (j := 12) (by decide)).symm.trans h), fun h => h13 ((done_set_ne (l := l) (i := 4) (j := 13) (by decide)).symm.trans h), fun h => (done_set_ne (l := l) (i := 4) (j := 14) (by decide)).trans (c14 ((done_set_ne (l := l) (i := 4) (j := 16) (by decide)).symm.trans h)), fun h => (done_set_ne (l := l) (i := 4) (j := 15) (by decide)).trans (c15 ((done_set_ne (l := l) (i := 4) (j := 17) (by decide)).symm.trans h)), hA.below hb, fun h => ((v14 ((done_set_ne (l := l) (i := 4) (j := 14) (by decide)).symm.trans h)).below hb).weaken (fun h => ((done_set_ne (l := l) (i := 4) (j := 16) (by decide)).symm.trans h)), fun h => ((v15 ((done_set_ne (l := l) (i := 4) (j := 15) (by decide)).symm.trans h)).below hb).weaken (fun h => ((done_set_ne (l := l) (i := 4) (j := 17) (by decide)).symm.trans h)), fun h h2 => n14_15 ((done_set_ne (l := l) (i := 4) (j := 14) (by decide)).symm.trans h) ((done_set_ne (l := l) (i := 4) (j := 15) (by decide)).symm.trans h2)⟩
      · intro l a w' hI hn hall K hK
        obtain ⟨hz, u8, u9, u31, u32, u33, u34, u35, u36, u37, u38, u39, u40, u41, u42, u43, u44, rfl, hR⟩ := hI
        have hzh := Lib.hid hz
        have hnh := Lib.hid hn
        have HR := Lib.hid hR
        obtain ⟨h0, h1, h2, h3, h4, h5, h6, h7, h8, h9, h10, h11, h12, h13, c14, c15, hA, v14, v15, n14_15⟩ := hR
        clear hz hn hall h0 h1 h2 h3 h4 h5 h6 h7 h8 h9 h10 h11 h12 h13 c14 c15 v14 v15 n14_15
        clear hA
        unfold FrT
        go_simp
        refine hK _ _ ⟨by simpa using hzh.out, _, _, _, _, _, _, _, _, _, _, _, _, _, _, _, _, rfl, ?_⟩
        obtain ⟨h0, h1, h2, h3, h4, h5, h6, h7, h8, h9, h10, h11, h12, h13, c14, c15, hA, v14, v15, n14_15⟩ := HR.out
        exact ⟨fun h => h0 ((done_set_ne (l := l) (i := 5) (j := 0) (by decide)).symm.trans h), fun h => h1 ((done_set_ne (l := l) (i := 5) (j := 1) (by decide)).symm.trans h), fun h => h2 ((done_set_ne (l := l) (i := 5) (j := 2) (by decide)).symm.trans h), fun h => h3 ((done_set_ne (l := l) (i := 5) (j := 3) (by decide)).symm.trans h), fun h => h4 ((done_set_ne (l := l) (i := 5) (j := 4) (by decide)).symm.trans h), fun _ => rfl, fun h => h6 ((done_set_ne (l := l) (i := 5) (j := 6) (by decide)).symm.trans h), fun h => h7 ((done_set_ne (l := l) (i := 5) (j := 7) (by decide)).symm.trans h), fun h => h8 ((done_set_ne (l := l) (i := 5) (j := 8) (by decide)).symm.trans h), fun h => h9 ((done_set_ne (l := l) (i := 5) (j := 9) (by decide)).symm.trans h), fun h => h10 ((done_set_ne (l := l) (i := 5) (j := 10) (by decide)).symm.trans h), fun h => h11 ((done_set_ne (l := l) (i := 5) (j := 11) (by decide)).symm.trans h), fun h => h12 ((done_set_ne (l := l) (i := 5) (j := 12) (by decide)).symm.trans h), fun h => h13 ((done_set_ne (l := l) (i := 5) (j := 13) (by decide)).symm.trans h), fun h => (done_set_ne (l := l) (i := 5) (j := 14) (by decide)).trans (c14 ((done_set_ne (l := l) (i := 5) (j := 16) (by decide)).symm.trans h)), fun h => (done_set_ne (l := l) (i := 5) (j := 15) (by decide)).trans (c15 ((done_set_ne (l := l) (i := 5) (j := 17) (by decide)).symm.trans h)), hA, fun h => ((v14 ((done_set_ne (l := l) (i := 5) (j := 14) (by decide)).symm.trans h))).weaken (fun h => ((done_set_ne (l := l) (i := 5) (j := 16) (by decide)).symm.trans h)), fun h => ((v15 ((done_set_ne (l := l) (i := 5) (j := 15) (by decide)).symm.trans h))).weaken (fun h => ((done_set_ne (l := l) (i := 5) (j := 17) (by decide)).symm.trans h)), fun h h2 => n14_15 ((done_set_ne (l := l) (i := 5) (j := 14) (by decide)).symm.trans h) ((done_set_ne (l := l) (i := 5) (j := 15) (by decide)).symm.trans h2)⟩
      · intro l a w' hI hn hall K hK
        obtain ⟨hz, u8, u9, u31, u32, u33, u34, u35, u36, u37, u38, u39, u40, u41, u42, u43, u44, rfl, hR⟩ := hI
        have hzh := Lib.hid hz
        have hnh := Lib.hid hn
        have HR := Lib.hid hR
        obtain ⟨h0, h1, h2, h3, h4, h5, h6, h7, h8, h9, h10, h11, h12, h13, c14, c15, hA, v14, v15, n14_15⟩ := hR
        have e5 := h5 (hall { on := 5, ground := Ground.data } (by simp) rfl)
        clear hz hn hall h0 h1 h2 h3 h4 h5 h6 h7 h8 h9 h10 h11 h12 h13 c14 c15 v14 v15 n14_15
        obtain ⟨a0, a1, _⟩ := hA
        subst e5
        unfold FrT
        go_simp
        refine hK _ _ ⟨by simpa using hzh.out, _, _, _, _, _, _, _, _, _, _, _, _, _, _, _, _, rfl, ?_⟩
        obtain ⟨h0, h1, h2, h3, h4, h5, h6, h7, h8, h9, h10, h11, h12, h13, c14, c15, hA, v14, v15, n14_15⟩ := HR.out
        exact ⟨fun h => h0 ((done_set_ne (l := l) (i := 6) (j := 0) (by decide)).symm.trans h), fun h => h1 ((done_set_ne (l := l) (i := 6) (j := 1) (by decide)).symm.trans h), fun h => h2 ((done_set_ne (l := l) (i := 6) (j := 2) (by decide)).symm.trans h), fun h => h3 ((done_set_ne (l := l) (i := 6) (j := 3) (by decide)).symm.trans h), fun h => h4 ((done_set_ne (l := l) (i := 6) (j := 4) (by decide)).symm.trans h), fun h => h5 ((done_set_ne (l := l) (i := 6) (j := 5) (by decide)).symm.trans h), fun _ => rfl, fun h => h7 ((done_set_ne (l := l) (i := 6) (j := 7) (by decide)).symm.trans h), fun h => h8 ((done_set_ne (l := l) (i := 6) (j := 8) (by decide)).symm.trans h), fun h => h9 ((done_set_ne (l := l) (i := 6) (j := 9) (by decide)).symm.trans h), fun h => h10 ((done_set_ne (l := l) (i := 6) (j := 10) (by decide)).symm.trans h), fun h => h11 ((done_set_ne (l := l) (i := 6) (j := 11) (by decide)).symm.trans h), fun h => h12 ((done_set_ne (l := l) (i := 6) (j := 12) (by decide)).symm.trans h), fun h => h13 ((done_set_ne (l := l) (i := 6) (j := 13) (by decide)).symm.trans h), fun h => (done_set_ne (l := l) (i := 6) (j := 14) (by decide)).trans (c14 ((done_set_ne (l := l) (i := 6) (j := 16) (by decide)).symm.trans h)), fun h => (done_set_ne (l := l) (i := 6) (j := 15) (by decide)).trans (c15 ((done_set_ne (l := l) (i := 6) (j := 17) (by decide)).symm.trans h)), hA, fun h => ((v14 ((done_set_ne (l := l) (i := 6) (j := 14) (by decide)).symm.trans h))).weaken (fun h => ((done_set_ne (l := l) (i := 6) (j := 16) (by decide)).symm.trans h)), fun h => ((v15 ((done_set_ne (l := l) (i := 6) (j := 15) (by decide)).symm.trans h))).weaken (fun h => ((done_set_ne (l := l) (i := 6) (j := 17) (by decide)).symm.trans h)), fun h h2 => n14_15 ((done_set_ne (l := l) (i := 6) (j := 14) (by decide)).symm.trans h) ((done_set_ne (l := l) (i := 6) (j := 15) (by decide)).symm.trans h2)⟩
      · intro l a w' hI hn hall K hK
        obtain ⟨hz, u8, u9, u31, u32, u33, u34, u35, u36, u37, u38, u39, u40, u41, u42, u43, u44, rfl, hR⟩ := hI
        have hzh := Lib.hid hz
        have hnh := Lib.hid hn
        have HR := Lib.hid hR
        obtain ⟨h0, h1, h2, h3, h4, h5, h6, h7, h8, h9, h10, h11, h12, h13, c14, c15, hA, v14, v15, n14_15⟩ := hR
        clear hz hn hall h0 h1 h2 h3 h4 h5 h6 h7 h8 h9 h10 h11 h12 h13 c14 c15 v14 v15 n14_15
        clear hA
        unfold FrT
        go_simp
        refine hK _ _ ⟨by simpa using hzh.out, _, _, _, _, _, _, _, _, _, _, _, _, _, _, _, _, rfl, ?_⟩
        obtain ⟨h0, h1, h2, h3, h4, h5, h6, h7, h8, h9, h10, h11, h12, h13, c14, c15, hA, v14, v15, n14_15⟩ := HR.out
        exact ⟨fun h => h0 ((done_set_ne (l := l) (i := 7) (j := 0) (by decide)).symm.trans h), fun h => h1 ((done_set_ne (l := l) (i := 7) (j := 1) (by decide)).symm.trans h), fun h => h2 ((done_set_ne (l := l) (i := 7) (j := 2) (by decide)).symm.trans h), fun h => h3 ((done_set_ne (l := l) (i := 7) (j := 3) (by decide)).symm.trans h), fun h => h4 ((done_set_ne (l := l) (i := 7) (j := 4) (by decide)).symm.trans h), fun h => h5 ((done_set_ne (l := l) (i := 7) (j := 5) (by decide)).symm.trans h), fun h => h6 ((done_set_ne (l := l) (i := 7) (j := 6) (by decide)).symm.trans h), fun _ => rfl, fun h => h8 ((done_set_ne (l := l) (i := 7) (j := 8) (by decide)).symm.trans h), fun h => h9 ((done_set_ne (l := l) (i := 7) (j := 9) (by decide)).symm.trans h), fun h => h10 ((done_set_ne (l := l) (i := 7) (j := 10) (by decide)).symm.trans h), fun h => h11 ((done_set_ne (l := l) (i := 7) (j := 11) (by decide)).symm.trans h), fun h => h12 ((done_set_ne (l := l) (i := 7) (j := 12) (by decide)).symm.trans h), fun h => h13 ((done_set_ne (l := l) (i := 7) (j := 13) (by decide)).symm.trans h), fun h => (done_set_ne (l := l) (i := 7) (j := 14) (by decide)).trans (c14 ((done_set_ne (l := l) (i := 7) (j := 16) (by decide)).symm.trans h)), fun h => (done_set_ne (l := l) (i := 7) (j := 15) (by decide)).trans (c15 ((done_set_ne (l := l) (i := 7) (j := 17) (by decide)).symm.trans h)), hA, fun h => ((v14 ((done_set_ne (l := l) (i := 7) (j := 14) (by decide)).symm.trans h))).weaken (fun h => ((done_set_ne (l := l) (i := 7) (j := 16) (by decide)).symm.trans h)), fun h => ((v15 ((done_set_ne (l := l) (i := 7) (j := 15) (by decide)).symm.trans h))).weaken (fun h => ((done_set_ne (l := l) (i := 7) (j := 17) (by decide)).symm.trans h)), fun h h2 => n14_15 ((done_set_ne (l := l) (i := 7) (j := 14) (by decide)).symm.trans h) ((done_set_ne (l := l) (i := 7) (j := 15) (by decide)).symm.trans h2)⟩
      · intro l a w' hI hn hall K hK
        obtain ⟨hz, u8, u9, u31, u32, u33, u34, u35, u36, u37, u38, u39, u40, u41, u42, u43, u44, rfl, hR⟩ := hI
        have hzh := Lib.hid hz
        have hnh := Lib.hid hn
        have HR := Lib.hid hR
        obtain ⟨h0, h1, h2, h3, h4, h5, h6, h7, h8, h9, h10, h11, h12, h13, c14, c15, hA, v14, v15, n14_15⟩ := hR
        have e6 := h6 (hall { on := 6, ground := Ground.data } (by simp) rfl)
        have e7 := h7 (hall { on := 7, ground := Ground.data } (by simp) rfl)
        clear hz hn hall h0 h1 h2 h3 h4 h5 h6 h7 h8 h9 h10 h11 h12 h13 c14 c15 v14 v15 n14_15
        clear hA
        subst e6
        subst e7
        unfold FrT
        go_simp
        refine hK _ _ ⟨by simpa using hzh.out, _, _, _, _, _, _, _, _, _, _, _, _, _, _, _, _, rfl, ?_⟩
        obtain ⟨h0, h1, h2, h3, h4, h5, h6, h7, h8, h9, h10, h11, h12, h13, c14, c15, hA, v14, v15, n14_15⟩ := HR.out
        exact ⟨fun h => h0 ((done_set_ne (l := l) (i := 8) (j := 0) (by decide)).symm.trans h), fun h => h1 ((done_set_ne (l := l) (i := 8) (j := 1) (by decide)).symm.trans h), fun h => h2 ((done_set_ne (l := l) (i := 8) (j := 2) (by decide)).symm.trans h), fun h => h3 ((done_set_ne (l := l) (i := 8) (j := 3) (by decide)).symm.trans h), fun h => h4 ((done_set_ne (l := l) (i := 8) (j := 4) (by decide)).symm.trans h), fun h => h5 ((done_set_ne (l := l) (i := 8) (j := 5) (by decide)).symm.trans h), fun h => h6 ((done_set_ne (l := l) (i := 8) (j := 6) (by decide)).symm.trans h), fun h => h7 ((done_set_ne (l := l) (i := 8) (j := 7) (by decide)).symm.trans h), fun _ => rfl, fun h => h9 ((done_set_ne (l := l) (i := 8) (j := 9) (by decide)).symm.trans h), fun h => h10 ((done_set_ne (l := l) (i := 8) (j := 10) (by decide)).symm.trans h), fun h => h11 ((done_set_ne (l := l) (i := 8) (j := 11) (by decide)).symm.trans h), fun h => h12 ((done_set_ne (l := l) (i := 8) (j := 12) (by decide)).symm.trans h), fun h => h13 ((done_set_ne (l := l) (i := 8) (j := 13) (by decide)).symm.trans h), fun h => (done_set_ne (l := l) (i := 8) (j := 14) (by decide)).trans (c14 ((done_set_ne (l := l) (i := 8) (j := 16) (by decide)).symm.trans h)), fun h => (done_set_ne (l := l) (i := 8) (j := 15) (by decide)).trans (c15 ((done_set_ne (l := l) (i := 8) (j := 17) (by decide)).symm.trans h)), hA, fun h => ((v14 ((done_set_ne (l := l) (i := 8) (j := 14) (by decide)).symm.trans h))).weaken (fun h => ((done_set_ne (l := l) (i := 8) (j := 16) (by decide)).symm.trans h)), fun h => ((v15 ((done_set_ne (l := l) (i := 8) (j := 15) (by decide)).symm.trans h))).weaken (fun h => ((done_set_ne (l := l) (i := 8) (j := 17) (by decide)).symm.trans h)), fun h h2 => n14_15 ((done_set_ne (l := l) (i := 8) (j := 14) (by decide)).symm.trans h) ((done_set_ne (l := l) (i := 8) (j := 15) (by decide)).symm.trans h2)⟩
      · intro l a w' hI hn hall K hK
        obtain ⟨hz, u8, u9, u31, u32, u33, u34, u35, u36, u37, u38, u39, u40, u41, u42, u43, u44, rfl, hR⟩ := hI
        have hzh := Lib.hid hz
        have hnh := Lib.hid hn
        have HR := Lib.hid hR
        obtain ⟨h0, h1, h2, h3, h4, h5, h6, h7, h8, h9, h10, h11, h12, h13, c14, c15, hA, v14, v15, n14_15⟩ := hR
        clear hz hn hall h0 h1 h2 h3 h4 h5 h6 h7 h8 h9 h10 h11 h12 h13 c14 c15 v14 v15 n14_15
        clear hA
        unfold FrT
        go_simp
        refine hK _ _ ⟨by simpa using hzh.out, _, _, _, _, _, _, _, _, _, _, _, _, _, _, _, _, rfl, ?_⟩
        obtain ⟨h0, h1, h2, h3, h4, h5, h6, h7, h8, h9, h10, h11, h12, h13, c14, c15, hA, v14, v15, n14_15⟩ := HR.out
        exact ⟨fun h => h0 ((done_set_ne (l := l) (i := 9) (j := 0) (by decide)).symm.trans h), fun h => h1 ((done_set_ne (l := l) (i := 9) (j := 1) (by decide)).symm.trans h), fun h => h2 ((done_set_ne (l := l) (i := 9) (j := 2) (by decide)).symm.trans h), fun h => h3 ((done_set_ne (l := l) (i := 9) (j := 3) (by decide)).symm.trans h), fun h => h4 ((done_set_ne (l := l) (i := 9) (j := 4) (by decide)).symm.trans h), fun h => h5 ((done_set_ne (l := l) (i := 9) (j := 5) (by decide)).symm.trans h), fun h => h6 ((done_set_ne (l := l) (i := 9) (j := 6) (by decide)).symm.trans h), fun h => h7 ((done_set_ne (l := l) (i := 9) (j := 7) (by decide)).symm.trans h), fun h => h8 ((done_set_ne (l := l) (i := 9) (j := 8) (by decide)).symm.trans h), fun _ => rfl, fun h => h10 ((done_set_ne (l := l) (i := 9) (j := 10) (by decide)).symm.trans h), fun h => h11 ((done_set_ne (l := l) (i := 9) (j := 11) (by decide)).symm.trans h), fun h => h12 ((done_set_ne (l := l) (i := 9) (j := 12) (by decide)).symm.trans h), fun h => h13 ((done_set_ne (l := l) (i := 9) (j := 13) (by decide)).symm.trans h), fun h => (done_set_ne (l := l) (i := 9) (j := 14) (by decide)).trans (c14 ((done_set_ne (l := l) (i := 9) (j := 16) (by decide)).symm.trans h)), fun h => (done_set_ne (l := l) (i := 9) (j := 15) (by decide)).trans (c15 ((done_set_ne (l := l) (i := 9) (j := 17) (by decide)).symm.trans h)), hA, fun h => ((v14 ((done_set_ne (l := l) (i := 9) (j := 14) (by decide)).symm.trans h))).weaken (fun h => ((done_set_ne (l := l) (i := 9) (j := 16) (by decide)).symm.trans h)), fun h => ((v15 ((done_set_ne (l := l) (i := 9) (j := 15) (by decide)).symm.trans h))).weaken (fun h => ((done_set_ne (l := l) (i := 9) (j := 17) (by decide)).symm.trans h)), fun h h2 => n14_15 ((done_set_ne (l := l) (i := 9) (j := 14) (by decide)).symm.trans h) ((done_set_ne (l := l) (i := 9) (j := 15) (by decide)).symm.trans h2)⟩
      · intro l a w' hI hn hall K hK
        obtain ⟨hz, u8, u9, u31, u32, u33, u34, u35, u36, u37, u38, u39, u40, u41, u42, u43, u44, rfl, hR⟩ := hI
        have hzh := Lib.hid hz
        have hnh := Lib.hid hn
        have HR := Lib.hid hR
        obtain ⟨h0, h1, h2, h3, h4, h5, h6, h7, h8, h9, h10, h11, h12, h13, c14, c15, hA, v14, v15, n14_15⟩ := hR
        have e9 := h9 (hall { on := 9, ground := Ground.data } (by simp) rfl)
        clear hz hn hall h0 h1 h2 h3 h4 h5 h6 h7 h8 h9 h10 h11 h12 h13 c14 c15 v14 v15 n14_15
        obtain ⟨a0, a1, _⟩ := hA
        subst e9
        unfold FrT
        go_simp
        refine hK _ _ ⟨by simpa using hzh.out, _, _, _, _, _, _, _, _, _, _, _, _, _, _, _, _, rfl, ?_⟩
        obtain ⟨h0, h1, h2, h3, h4, h5, h6, h7, h8, h9, h10, h11, h12, h13, c14, c15, hA, v14, v15, n14_15⟩ := HR.out
        exact ⟨fun h => h0 ((done_set_ne (l := l) (i := 10) (j := 0) (by decide)).symm.trans h), fun h => h1 ((done_set_ne (l := l) (i := 10) (j := 1) (by decide)).symm.trans h), fun h => h2 ((done_set_ne (l := l) (i := 10) (j := 2) (by decide)).symm.trans h), fun h => h3 ((done_set_ne (l := l) (i := 10) (j := 3) (by decide)).symm.trans h), fun h => h4 ((done_set_ne (l := l) (i := 10) (j := 4) (by decide)).symm.trans h), fun h => h5 ((done_set_ne (l := l) (i := 10) (j := 5) (by decide)).symm.trans h), fun h => h6 ((done_set_ne (l := l) (i := 10) (j := 6) (by decide)).symm.trans h), fun h => h7 ((done_set_ne (l := l) (i := 10) (j := 7) (by decide)).symm.trans h), fun h => h8 ((done_set_ne (l := l) (i := 10) (j := 8) (by decide)).symm.trans h), fun h => h9 ((done_set_ne (l := l) (i := 10) (j := 9) (by decide)).symm.trans h), fun _ => rfl, fun h => h11 ((done_set_ne (l := l) (i := 10) (j := 11) (by decide)).symm.trans h), fun h => h12 ((done_set_ne (l := l) (i := 10) (j := 12) (by decide)).symm.trans h), fun h => h13 ((done_set_ne (l := l) (i := 10) (j := 13) (by decide)).symm.trans h), fun h => (done_set_ne (l := l) (i := 10) (j := 14) (by decide)).trans (c14 ((done_set_ne (l := l) (i := 10) (j := 16) (by decide)).symm.trans h)), fun h => (done_set_ne (l := l) (i := 10) (j := 15) (by decide)).trans (c15 ((done_set_ne (l := l) (i := 10) (j := 17) (by decide)).symm.trans h)), hA, fun h => ((v14 ((done_set_ne (l := l) (i := 10) (j := 14) (by decide)).symm.trans h))).weaken (fun h => ((done_set_ne (l := l) (i := 10) (j := 16) (by decide)).symm.trans h)), fun h => ((v15 ((done_set_ne (l := l) (i := 10) (j := 15) (by decide)).symm.trans h))).weaken (fun h => ((done_set_ne (l := l) (i := 10) (j := 17) (by decide)).symm.trans h)), fun h h2 => n14_15 ((done_set_ne (l := l) (i := 10) (j := 14) (by decide)).symm.trans h) ((done_set_ne (l := l) (i := 10) (j := 15) (by decide)).symm.trans h2)⟩
      · intro l a w' hI hn hall K hK
        obtain ⟨hz, u8, u9, u31, u32, u33, u34, u35, u36, u37, u38, u39, u40, u41, u42, u43, u44, rfl, hR⟩ := hI
        have hzh := Lib.hid hz
        have hnh := Lib.hid hn
        have HR := Lib.hid hR
        obtain ⟨h0, h1, h2, h3, h4, h5, h6, h7, h8, h9, h10, h11, h12, h13, c14, c15, hA, v14, v15, n14_15⟩ := hR
        clear hz hn hall h0 h1 h2 h3 h4 h5 h6 h7 h8 h9 h10 h11 h12 h13 c14 c15 v14 v15 n14_15
        clear hA
        unfold FrT
        go_simp
        refine hK _ _ ⟨by simpa using hzh.out, _, _, _, _, _, _, _, _, _, _, _, _, _, _, _, _, rfl, ?_⟩
        obtain ⟨h0, h1, h2, h3, h4, h5, h6, h7, h8, h9, h10, h11, h12, h13, c14, c15, hA, v14, v15, n14_15⟩ := HR.out
        exact ⟨fun h => h0 ((done_set_ne (l := l) (i := 11) (j := 0) (by decide)).symm.trans h), fun h => h1 ((done_set_ne (l := l) (i := 11) (j := 1) (by decide)).symm.trans h), fun h => h2 ((done_set_ne (l := l) (i := 11) (j := 2) (by decide)).symm.trans h), fun h => h3 ((done_set_ne (l := l) (i := 11) (j := 3) (by decide)).symm.trans h), fun h => h4 ((done_set_ne (l := l) (i := 11) (j := 4) (by decide)).symm.trans h), fun h => h5 ((done_set_ne (l := l) (i := 11) (j := 5) (by decide)).symm.trans h), fun h => h6 ((done_set_ne (l := l) (i := 11) (j := 6) (by decide)).symm.trans h), fun h => h7 ((done_set_ne (l := l) (i := 11) (j := 7) (by decide)).symm.trans h), fun h => h8 ((done_set_ne (l := l) (i := 11) (j := 8) (by decide)).symm.trans h), fun h => h9 ((done_set_ne (l := l) (i := 11) (j := 9) (by decide)).symm.trans h), fun h => h10 ((done_set_ne (l := l) (i := 11) (j := 10) (by decide)).symm.trans h), fun _ => rfl, fun h => h12 ((done_set_ne (l := l) (i := 11) (j := 12) (by decide)).symm.trans h), fun h => h13 ((done_set_ne (l := l) (i := 11) (j := 13) (by decide)).symm.trans h), fun h => (done_set_ne (l := l) (i := 11) (j := 14) (by decide)).trans (c14 ((done_set_ne (l := l) (i := 11) (j := 16) (by decide)).symm.trans h)), fun h => (done_set_ne (l := l) (i := 11) (j := 15) (by decide)).trans (c15 ((done_set_ne (l := l) (i := 11) (j := 17) (by decide)).symm.trans h)), hA, fun h => ((v14 ((done_set_ne (l := l) (i := 11) (j := 14) (by decide)).symm.trans h))).weaken (fun h => ((done_set_ne (l := l) (i := 11) (j := 16) (by decide)).symm.trans h)), fun h => ((v15 ((done_set_ne (l := l) (i := 11) (j := 15) (by decide)).symm.trans h))).weaken (fun h => ((done_set_ne (l := l) (i := 11) (j := 17) (by decide)).symm.trans h)), fun h h2 => n14_15 ((done_set_ne (l := l) (i := 11) (j := 14) (by decide)).symm.trans h) ((done_set_ne (l := l) (i := 11) (j := 15) (by decide)).symm.trans h2)⟩
      · intro l a w' hI hn hall K hK
        obtain ⟨hz, u8, u9, u31, u32, u33, u34, u35, u36, u37, u38, u39, u40, u41, u42, u43, u44, rfl, hR⟩ := hI
        have hzh := Lib.hid hz
        have hnh := Lib.hid hn
        have HR := Lib.hid hR
        obtain ⟨h0, h1, h2, h3, h4, h5, h6, h7, h8, h9, h10, h11, h12, h13, c14, c15, hA, v14, v15, n14_15⟩ := hR
        have e10 := h10 (hall { on := 10, ground := Ground.data } (by simp) rfl)
        have e11 := h11 (hall { on := 11, ground := Ground.data } (by simp) rfl)
        clear hz hn hall h0 h1 h2 h3 h4 h5 h6 h7 h8 h9 h10 h11 h12 h13 c14 c15 v14 v15 n14_15
        clear hA
        subst e10
        subst e11
        unfold FrT
        go_simp
        refine hK _ _ ⟨by simpa using hzh.out, _, _, _, _, _, _, _, _, _, _, _, _, _, _, _, _, rfl, ?_⟩
        obtain ⟨h0, h1, h2, h3, h4, h5, h6, h7, h8, h9, h10, h11, h12, h13, c14, c15, hA, v14, v15, n14_15⟩ := HR.out
        exact ⟨fun h => h0 ((done_set_ne (l := l) (i := 12) (j := 0) (by decide)).symm.trans h), fun h => h1 ((done_set_ne (l := l) (i := 12) (j := 1) (by decide)).symm.trans h), fun h => h2 ((done_set_ne (l := l) (i := 12) (j := 2) (by decide)).symm.trans h), fun h => h3 ((done_set_ne (l := l) (i := 12) (j := 3) (by decide)).symm.trans h), fun h => h4 ((done_set_ne (l := l) (i := 12) (j := 4) (by decide)).symm.trans h), fun h => h5 ((done_set_ne (l := l) (i := 12) (j := 5) (by decide)).symm.trans h), fun h => h6 ((done_set_ne (l := l) (i := 12) (j := 6) (by decide)).symm.trans h), fun h => h7 ((done_set_ne (l := l) (i := 12) (j := 7) (by decide)).symm.trans h), fun h => h8 ((done_set_ne (l := l) (i := 12) (j := 8) (by decide)).symm.trans h), fun h => h9 ((done_set_ne (l := l) (i := 12) (j := 9) (by decide)).symm.trans h), fun h => h10 ((done_set_ne (l := l) (i := 12) (j := 10) (by decide)).symm.trans h), fun h => h11 ((done_set_ne (l := l) (i := 12) (j := 11) (by decide)).symm.trans h), fun _ => rfl, fun h => h13 ((done_set_ne (l := l) (i := 12) (j := 13) (by decide)).symm.trans h), fun h => (done_set_ne (l := l) (i := 12) (j := 14) (by decide)).trans (c14 ((done_set_ne (l := l) (i := 12) (j := 16) (by decide)).symm.trans h)), fun h => (done_set_ne (l := l) (i := 12) (j := 15) (by decide)).trans (c15 ((done_set_ne (l := l) (i := 12) (j := 17) (by decide)).symm.trans h)), hA, fun h => ((v14 ((done_set_ne (l := l) (i := 12) (j := 14) (by decide)).symm.trans h))).weaken (fun h => ((done_set_ne (l := l) (i := 12) (j := 16) (by decide)).symm.trans h)), fun h => ((v15 ((done_set_ne (l := l) (i := 12) (j := 15) (by decide)).symm.trans h))).weaken (fun h => ((done_set_ne (l := l) (i := 12) (j := 17) (by decide)).symm.trans h)), fun h h2 => n14_15 ((done_set_ne (l := l) (i := 12) (j := 14) (by decide)).symm.trans h) ((done_set_ne (l := l) (i := 12) (j := 15) (by decide)).symm.trans h2)⟩
      · intro l a w' hI hn hall K hK
        obtain ⟨hz, u8, u9, u31, u32, u33, u34, u35, u36, u37, u38, u39, u40, u41, u42, u43, u44, rfl, hR⟩ := hI
        have hzh := Lib.hid hz
        have hnh := Lib.hid hn
        have HR := Lib.hid hR
        obtain ⟨h0, h1, h2, h3, h4, h5, h6, h7, h8, h9, h10, h11, h12, h13, c14, c15, hA, v14, v15, n14_15⟩ := hR
        have e8 := h8 (hall { on := 8, ground := Ground.data } (by simp) rfl)
        have e12 := h12 (hall { on := 12, ground := Ground.data } (by simp) rfl)
        clear hz hn hall h0 h1 h2 h3 h4 h5 h6 h7 h8 h9 h10 h11 h12 h13 c14 c15 v14 v15 n14_15
        clear hA
        subst e8
        subst e12
        unfold FrT
        go_simp
        refine (point_any _ _ _).mono ?_
        rintro e w2 ⟨rfl, hb⟩
        refine hK _ _ ⟨by simpa using hzh.out, _, _, _, _, _, _, _, _, _, _, _, _, _, _, _, _, rfl, ?_⟩
        obtain ⟨h0, h1, h2, h3, h4, h5, h6, h7, h8, h9, h10, h11, h12, h13, c14, c15, hA, v14, v15, n14_15⟩ := HR.out
        exact ⟨fun h => h0 ((done_set_ne (l := l) (i := 13) (j := 0) (by decide)).symm.trans h), fun h => h1 ((done_set_ne (l := l) (i := 13) (j := 1) (by decide)).symm.trans h), fun h => h2 ((done_set_ne (l := l) (i := 13) (j := 2) (by decide)).symm.trans h), fun h => h3 ((done_set_ne (l := l) (i := 13) (j := 3) (by decide)).symm.trans h), fun h => h4 ((done_set_ne (l := l) (i := 13) (j := 4) (by decide)).symm.trans h), fun h => h5 ((done_set_ne (l := l) (i := 13) (j := 5) (by decide)).symm.trans h), fun h => h6 ((done_set_ne (l := l) (i := 13) (j := 6) (by decide)).symm.trans h), fun h => h7 ((done_set_ne (l := l) (i := 13) (j := 7) (by decide)).symm.trans h), fun h => h8 ((done_set_ne (l := l) (i := 13) (j := 8) (by decide)).symm.trans h), fun h => h9 ((done_set_ne (l := l) (i := 13) (j := 9) (by decide)).symm.trans h), fun h => h10 ((done_set_ne (l := l) (i := 13) (j := 10) (by decide)).symm.trans h), fun h => h11 ((done_set_ne (l := l) (i := 13) (j := 11) (by decide)).symm.trans h), fun h => h12 ((done_set_ne (l := l) (i := 13) (j := 12) (by decide)).symm.trans h), fun _ => by rw [fold_turn1, fold_turn2], fun h => (done_set_ne (l := l) (i := 13) (j := 14) (by decide)).trans (c14 ((done_set_ne (l := l) (i := 13) (j := 16) (by decide)).symm.trans h)), fun h => (done_set_ne (l := l) (i := 13) (j := 15) (by decide)).trans (c15 ((done_set_ne (l := l) (i := 13) (j := 17) (by decide)).symm.trans h)), hA.below hb, fun h => ((v14 ((done_set_ne (l := l) (i := 13) (j := 14) (by decide)).symm.trans h)).below hb).weaken (fun h => ((done_set_ne (l := l) (i := 13) (j := 16) (by decide)).symm.trans h)), fun h => ((v15 ((done_set_ne (l := l) (i := 13) (j := 15) (by decide)).symm.trans h)).below hb).weaken (fun h => ((done_set_ne (l := l) (i := 13) (j := 17) (by decide)).symm.trans h)), fun h h2 => n14_15 ((done_set_ne (l := l) (i := 13) (j := 14) (by decide)).symm.trans h) ((done_set_ne (l := l) (i := 13) (j := 15) (by decide)).symm.trans h2)⟩
      · intro l a w' hI hn hall K hK
        obtain ⟨hz, u8, u9, u31, u32, u33, u34, u35, u36, u37, u38, u39, u40, u41, u42, u43, u44, rfl, hR⟩ := hI
        have hzh := Lib.hid hz
        have hnh := Lib.hid hn
        have HR := Lib.hid hR
        obtain ⟨h0, h1, h2, h3, h4, h5, h6, h7, h8, h9, h10, h11, h12, h13, c14, c15, hA, v14, v15, n14_15⟩ := hR
        clear hz hn hall h0 h1 h2 h3 h4 h5 h6 h7 h8 h9 h10 h11 h12 h13 c14 c15 v14 v15 n14_15
        clear hA
        unfold FrT
        go_simp
        refine hK _ _ ⟨by simpa using hzh.out, _, _, _, _, _, _, _, _, _, _, _, _, _, _, _, _, rfl, ?_⟩
        obtain ⟨h0, h1, h2, h3, h4, h5, h6, h7, h8, h9, h10, h11, h12, h13, c14, c15, hA, v14, v15, n14_15⟩ := HR.out
        exact ⟨fun h => h0 ((done_set_ne (l := l) (i := 14) (j := 0) (by decide)).symm.trans h), fun h => h1 ((done_set_ne (l := l) (i := 14) (j := 1) (by decide)).symm.trans h), fun h => h2 ((done_set_ne (l := l) (i := 14) (j := 2) (by decide)).symm.trans h), fun h => h3 ((done_set_ne (l := l) (i := 14) (j := 3) (by decide)).symm.trans h), fun h => h4 ((done_set_ne (l := l) (i := 14) (j := 4) (by decide)).symm.trans h), fun h => h5 ((done_set_ne (l := l) (i := 14) (j := 5) (by decide)).symm.trans h), fun h => h6 ((done_set_ne (l := l) (i := 14) (j := 6) (by decide)).symm.trans h), fun h => h7 ((done_set_ne (l := l) (i := 14) (j := 7) (by decide)).symm.trans h), fun h => h8 ((done_set_ne (l := l) (i := 14) (j := 8) (by decide)).symm.trans h), fun h => h9 ((done_set_ne (l := l) (i := 14) (j := 9) (by decide)).symm.trans h), fun h => h10 ((done_set_ne (l := l) (i := 14) (j := 10) (by decide)).symm.trans h), fun h => h11 ((done_set_ne (l := l) (i := 14) (j := 11) (by decide)).symm.trans h), fun h => h12 ((done_set_ne (l := l) (i := 14) (j := 12) (by decide)).symm.trans h), fun h => h13 ((done_set_ne (l := l) (i := 14) (j := 13) (by decide)).symm.trans h), fun h => absurd (c14 ((done_set_ne (l := l) (i := 14) (j := 16) (by decide)).symm.trans h)) (by rw [getD_both hnh.out]; decide), fun h => (done_set_ne (l := l) (i := 14) (j := 15) (by decide)).trans (c15 ((done_set_ne (l := l) (i := 14) (j := 17) (by decide)).symm.trans h)), hA.below ((Below.refl _ _).alloc (Nat.le_refl _) _), fun _ => Var.new hA.roomy (fun h => absurd (c14 ((done_set_ne (l := l) (i := 14) (j := 16) (by decide)).symm.trans h)) (by rw [getD_both hnh.out]; decide)), fun h => ((v15 ((done_set_ne (l := l) (i := 14) (j := 15) (by decide)).symm.trans h)).below ((Below.refl _ _).alloc (Nat.le_refl _) _)).weaken (fun h => ((done_set_ne (l := l) (i := 14) (j := 17) (by decide)).symm.trans h)), fun _ h => (v15 ((done_set_ne (l := l) (i := 14) (j := 15) (by decide)).symm.trans h)).apart⟩
      · intro l a w' hI hn hall K hK
        obtain ⟨hz, u8, u9, u31, u32, u33, u34, u35, u36, u37, u38, u39, u40, u41, u42, u43, u44, rfl, hR⟩ := hI
        have hzh := Lib.hid hz
        have hnh := Lib.hid hn
        have HR := Lib.hid hR
        obtain ⟨h0, h1, h2, h3, h4, h5, h6, h7, h8, h9, h10, h11, h12, h13, c14, c15, hA, v14, v15, n14_15⟩ := hR
        clear hz hn hall h0 h1 h2 h3 h4 h5 h6 h7 h8 h9 h10 h11 h12 h13 c14 c15 v14 v15 n14_15
        clear hA
        unfold FrT
        go_simp
        refine hK _ _ ⟨by simpa using hzh.out, _, _, _, _, _, _, _, _, _, _, _, _, _, _, _, _, rfl, ?_⟩
        obtain ⟨h0, h1, h2, h3, h4, h5, h6, h7, h8, h9, h10, h11, h12, h13, c14, c15, hA, v14, v15, n14_15⟩ := HR.out
        exact ⟨fun h => h0 ((done_set_ne (l := l) (i := 15) (j := 0) (by decide)).symm.trans h), fun h => h1 ((done_set_ne (l := l) (i := 15) (j := 1) (by decide)).symm.trans h), fun h => h2 ((done_set_ne (l := l) (i := 15) (j := 2) (by decide)).symm.trans h), fun h => h3 ((done_set_ne (l := l) (i := 15) (j := 3) (by decide)).symm.trans h), fun h => h4 ((done_set_ne (l := l) (i := 15) (j := 4) (by decide)).symm.trans h), fun h => h5 ((done_set_ne (l := l) (i := 15) (j := 5) (by decide)).symm.trans h), fun h => h6 ((done_set_ne (l := l) (i := 15) (j := 6) (by decide)).symm.trans h), fun h => h7 ((done_set_ne (l := l) (i := 15) (j := 7) (by decide)).symm.trans h), fun h => h8 ((done_set_ne (l := l) (i := 15) (j := 8) (by decide)).symm.trans h), fun h => h9 ((done_set_ne (l := l) (i := 15) (j := 9) (by decide)).symm.trans h), fun h => h10 ((done_set_ne (l := l) (i := 15) (j := 10) (by decide)).symm.trans h), fun h => h11 ((done_set_ne (l := l) (i := 15) (j := 11) (by decide)).symm.trans h), fun h => h12 ((done_set_ne (l := l) (i := 15) (j := 12) (by decide)).symm.trans h), fun h => h13 ((done_set_ne (l := l) (i := 15) (j := 13) (by decide)).symm.trans h), fun h => (done_set_ne (l := l) (i := 15) (j := 14) (by decide)).trans (c14 ((done_set_ne (l := l) (i := 15) (j := 16) (by decide)).symm.trans h)), fun h => absurd (c15 ((done_set_ne (l := l) (i := 15) (j := 17) (by decide)).symm.trans h)) (by rw [getD_both hnh.out]; decide), hA.below ((Below.refl _ _).alloc (Nat.le_refl _) _), fun h => ((v14 ((done_set_ne (l := l) (i := 15) (j := 14) (by decide)).symm.trans h)).below ((Below.refl _ _).alloc (Nat.le_refl _) _)).weaken (fun h => ((done_set_ne (l := l) (i := 15) (j := 16) (by decide)).symm.trans h)), fun _ => Var.new hA.roomy (fun h => absurd (c15 ((done_set_ne (l := l) (i := 15) (j := 17) (by decide)).symm.trans h)) (by rw [getD_both hnh.out]; decide)), fun h _ => ((v14 ((done_set_ne (l := l) (i := 15) (j := 14) (by decide)).symm.trans h)).apart).symm⟩
      · intro l a w' hI hn hall K hK
        obtain ⟨hz, u8, u9, u31, u32, u33, u34, u35, u36, u37, u38, u39, u40, u41, u42, u43, u44, rfl, hR⟩ := hI
        have hzh := Lib.hid hz
        have hnh := Lib.hid hn
        have HR := Lib.hid hR
        obtain ⟨h0, h1, h2, h3, h4, h5, h6, h7, h8, h9, h10, h11, h12, h13, c14, c15, hA, v14, v15, n14_15⟩ := hR
        have e4 := h4 (hall { on := 4, ground := Ground.data } (by simp) rfl)
        have f14 := hall { on := 14, ground := Ground.data } (by simp) rfl
        obtain ⟨X, ex, x1, x2, x3, ⟨k', x', y', x4⟩, _⟩ := v14 f14
        clear hz hn hall h0 h1 h2 h3 h4 h5 h6 h7 h8 h9 h10 h11 h12 h13 c14 c15 v14 v15 n14_15
        clear hA
        subst e4
        subst ex
        obtain ⟨y0, y1, y2, y3, y4⟩ := x4
        simp only [Nat.zero_add] at y1 y2 y3 y4
        obtain ⟨z0, z1, z2, z3, z4⟩ := x3
        unfold FrT
        go_simp
        refine hK _ _ ⟨by simpa using hzh.out, _, _, _, _, _, _, _, _, _, _, _, _, _, _, _, _, rfl, ?_⟩
        obtain ⟨h0, h1, h2, h3, h4, h5, h6, h7, h8, h9, h10, h11, h12, h13, c14, c15, hA, v14, v15, n14_15⟩ := HR.out
        exact ⟨fun h => h0 ((done_set_ne (l := l) (i := 16) (j := 0) (by decide)).symm.trans h), fun h => h1 ((done_set_ne (l := l) (i := 16) (j := 1) (by decide)).symm.trans h), fun h => h2 ((done_set_ne (l := l) (i := 16) (j := 2) (by decide)).symm.trans h), fun h => h3 ((done_set_ne (l := l) (i := 16) (j := 3) (by decide)).symm.trans h), fun h => h4 ((done_set_ne (l := l) (i := 16) (j := 4) (by decide)).symm.trans h), fun h => h5 ((done_set_ne (l := l) (i := 16) (j := 5) (by decide)).symm.trans h), fun h => h6 ((done_set_ne (l := l) (i := 16) (j := 6) (by decide)).symm.trans h), fun h => h7 ((done_set_ne (l := l) (i := 16) (j := 7) (by decide)).symm.trans h), fun h => h8 ((done_set_ne (l := l) (i := 16) (j := 8) (by decide)).symm.trans h), fun h => h9 ((done_set_ne (l := l) (i := 16) (j := 9) (by decide)).symm.trans h), fun h => h10 ((done_set_ne (l := l) (i := 16) (j := 10) (by decide)).symm.trans h), fun h => h11 ((done_set_ne (l := l) (i := 16) (j := 11) (by decide)).symm.trans h), fun h => h12 ((done_set_ne (l := l) (i := 16) (j := 12) (by decide)).symm.trans h), fun h => h13 ((done_set_ne (l := l) (i := 16) (j := 13) (by decide)).symm.trans h), fun _ => (done_set_ne (l := l) (i := 16) (j := 14) (by decide)).trans f14, fun h => (done_set_ne (l := l) (i := 16) (j := 15) (by decide)).trans (c15 ((done_set_ne (l := l) (i := 16) (j := 17) (by decide)).symm.trans h)), hA.put x1, fun _ => (v14 f14).put_self, fun h => have h' := ((done_set_ne (l := l) (i := 16) (j := 15) (by decide)).symm.trans h); ((v15 h').put_other (fun e => (n14_15 f14 h') e.symm)).weaken (fun h => ((done_set_ne (l := l) (i := 16) (j := 17) (by decide)).symm.trans h)), fun h h2 => n14_15 ((done_set_ne (l := l) (i := 16) (j := 14) (by decide)).symm.trans h) ((done_set_ne (l := l) (i := 16) (j := 15) (by decide)).symm.trans h2)⟩
      · intro l a w' hI hn hall K hK
        obtain ⟨hz, u8, u9, u31, u32, u33, u34, u35, u36, u37, u38, u39, u40, u41, u42, u43, u44, rfl, hR⟩ := hI
        have hzh := Lib.hid hz
        have hnh := Lib.hid hn
        have HR := Lib.hid hR
        obtain ⟨h0, h1, h2, h3, h4, h5, h6, h7, h8, h9, h10, h11, h12, h13, c14, c15, hA, v14, v15, n14_15⟩ := hR
        have e13 := h13 (hall { on := 13, ground := Ground.data } (by simp) rfl)
        have f14 := hall { on := 15, ground := Ground.data } (by simp) rfl
        obtain ⟨X, ex, x1, x2, x3, ⟨k', x', y', x4⟩, _⟩ := v15 f14
        clear hz hn hall h0 h1 h2 h3 h4 h5 h6 h7 h8 h9 h10 h11 h12 h13 c14 c15 v14 v15 n14_15
        clear hA
        subst e13
        subst ex
        obtain ⟨y0, y1, y2, y3, y4⟩ := x4
        simp only [Nat.zero_add] at y1 y2 y3 y4
        obtain ⟨z0, z1, z2, z3, z4⟩ := x3
        unfold FrT
        go_simp
        refine hK _ _ ⟨by simpa using hzh.out, _, _, _, _, _, _, _, _, _, _, _, _, _, _, _, _, rfl, ?_⟩
        obtain ⟨h0, h1, h2, h3, h4, h5, h6, h7, h8, h9, h10, h11, h12, h13, c14, c15, hA, v14, v15, n14_15⟩ := HR.out
        exact ⟨fun h => h0 ((done_set_ne (l := l) (i := 17) (j := 0) (by decide)).symm.trans h), fun h => h1 ((done_set_ne (l := l) (i := 17) (j := 1) (by decide)).symm.trans h), fun h => h2 ((done_set_ne (l := l) (i := 17) (j := 2) (by decide)).symm.trans h), fun h => h3 ((done_set_ne (l := l) (i := 17) (j := 3) (by decide)).symm.trans h), fun h => h4 ((done_set_ne (l := l) (i := 17) (j := 4) (by decide)).symm.trans h), fun h => h5 ((done_set_ne (l := l) (i := 17) (j := 5) (by decide)).symm.trans h), fun h => h6 ((done_set_ne (l := l) (i := 17) (j := 6) (by decide)).symm.trans h), fun h => h7 ((done_set_ne (l := l) (i := 17) (j := 7) (by decide)).symm.trans h), fun h => h8 ((done_set_ne (l := l) (i := 17) (j := 8) (by decide)).symm.trans h), fun h => h9 ((done_set_ne (l := l) (i := 17) (j := 9) (by decide)).symm.trans h), fun h => h10 ((done_set_ne (l := l) (i := 17) (j := 10) (by decide)).symm.trans h), fun h => h11 ((done_set_ne (l := l) (i := 17) (j := 11) (by decide)).symm.trans h), fun h => h12 ((done_set_ne (l := l) (i := 17) (j := 12) (by decide)).symm.trans h), fun h => h13 ((done_set_ne (l := l) (i := 17) (j := 13) (by decide)).symm.trans h), fun h => (done_set_ne (l := l) (i := 17) (j := 14) (by decide)).trans (c14 ((done_set_ne (l := l) (i := 17) (j := 16) (by decide)).symm.trans h)), fun _ => (done_set_ne (l := l) (i := 17) (j := 15) (by decide)).trans f14, hA.put x1, fun h => have h' := ((done_set_ne (l := l) (i := 17) (j := 14) (by decide)).symm.trans h); ((v14 h').put_other (n14_15 h' f14)).weaken (fun h => ((done_set_ne (l := l) (i := 17) (j := 16) (by decide)).symm.trans h)), fun _ => (v15 f14).put_self, fun h h2 => n14_15 ((done_set_ne (l := l) (i := 17) (j := 14) (by decide)).symm.trans h) ((done_set_ne (l := l) (i := 17) (j := 15) (by decide)).symm.trans h2)⟩
    · intro l a w' hI hall
      obtain ⟨hz, u8, u9, u31, u32, u33, u34, u35, u36, u37, u38, u39, u40, u41, u42, u43, u44, rfl, h0, h1, h2, h3, h4, h5, h6, h7, h8, h9, h10, h11, h12, h13, c14, c15, hA, v14, v15, n14_15⟩ := hI
      have w14 := v14 (hall 14 (by decide))
      have w15 := v15 (hall 15 (by decide))
      obtain ⟨X, rfl, x1, x2, x3, x4, x5⟩ := w14
      obtain ⟨Y, rfl, y1, y2, y3, y4, y5⟩ := w15
      have X5 := x5 (hall 16 (by decide))
      have Y5 := y5 (hall 17 (by decide))
      clear hz h0 h1 h2 h3 h4 h5 h6 h7 h8 h9 h10 h11 h12 h13 c14 c15 v14 v15 n14_15 hall x3 x4 x5 y3 y4 y5
      unfold FrT
      go_wp2_with fail
      go_meet
      exact ⟨X, Y, rfl, rfl, X5, Y5, x2, y2, hA.1, hA.2.1, hA.2.2.1, hA.2.2.2.1, hA.2.2.2.2.1, hA.2.2.2.2.2⟩
  case rest =>
    obtain ⟨X, Y, rfl, rfl, hX, hY, hXs, hYs, b0, b1, b2, b3, hL, hN⟩ := hcut
    have kc : KeptT w P Q r s (foldI P) (foldI Q) X wc := ⟨hX, hXs, b0, b1, b2, b3, hL, hN⟩
    obtain ⟨y0, y1, y2, y3, y4⟩ := hY
    simp only [Nat.zero_add] at y1 y2 y3 y4
    clear hX hXs hYs b0 b1 b2 b3 hL hN hA
    obtain ⟨A1, A2⟩ := foldI_bd P
    obtain ⟨B1, B2⟩ := foldI_bd Q
    obtain ⟨C1, C2⟩ := foldI_bd r
    obtain ⟨D1, D2⟩ := foldI_bd s
    have m1 := sub_fold P
    have m2 := sub_fold Q
    have pz := point_any r s
    generalize foldI P = A at *
    generalize foldI Q = B at *
    generalize foldI r = C at *
    generalize foldI s = D at *
    have PZ := Lib.hid pz
    clear pz
    have kch := Lib.hid kc
    obtain ⟨⟨x0, x1, x2, x3, x4⟩, xs, b0, b1, b2, b3, hL, hN⟩ := kc
    simp only [Nat.zero_add] at x1 x2 x3 x4
    go_wp2_with fail
    refine (compare_points _ _ _ _ A B A B (rep_in A1 A2) (rep_in B1 B2) (rep_in A1 A2) (rep_in B1 B2) A1 A2 B1 B2 A1 A2 B1 B2 _).mono ?_
    rw [ordI_self]
    rintro e w1 ⟨rfl, hb⟩
    have k1 := kch.out.below hb
    clear kch hb x0 x1 x2 x3 x4 xs b0 b1 b2 b3 hL hN y0 y1 y2 y3 y4
    have k1h := Lib.hid k1
    obtain ⟨⟨x0, x1, x2, x3, x4⟩, xs, b0, b1, b2, b3, hL, hN⟩ := k1
    simp only [Nat.zero_add] at x1 x2 x3 x4
    go_wp2_with fail
    refine (parts_point _ _ A B (rep_in A1 A2) (rep_in B1 B2) A1 A2 B1 B2 _).mono ?_
    rintro e w2 ⟨rfl, hb⟩
    have k2 := k1h.out.below hb
    clear k1h hb x0 x1 x2 x3 x4 xs b0 b1 b2 b3 hL hN
    have k2h := Lib.hid k2
    obtain ⟨⟨x0, x1, x2, x3, x4⟩, xs, b0, b1, b2, b3, hL, hN⟩ := k2
    simp only [Nat.zero_add] at x1 x2 x3 x4
    go_wp2_with fail
    refine (PZ.out _).mono ?_
    rintro e w3 ⟨rfl, hb⟩
    have k3 := k2h.out.below hb
    clear k2h hb x0 x1 x2 x3 x4 xs b0 b1 b2 b3 hL hN
    have k3h := Lib.hid k3
    obtain ⟨⟨x0, x1, x2, x3, x4⟩, xs, b0, b1, b2, b3, hL, hN⟩ := k3
    simp only [Nat.zero_add] at x1 x2 x3 x4
    go_wp2_with fail
    refine (parts_point _ _ C D (rep_in C1 C2) (rep_in D1 D2) C1 C2 D1 D2 _).mono ?_
    rintro e w4 ⟨rfl, hb⟩
    have k4 := (k3h.out.below ((Below.refl _ _).alloc (Nat.le_refl _) _)).below hb
    have hZ := (Five.new w3 5 (fb C) (fb D) 26).below hb (by simp)
    clear k3h hb x0 x1 x2 x3 x4 xs b0 b1 b2 b3 hL hN
    have k4h := Lib.hid k4
    obtain ⟨⟨x0, x1, x2, x3, x4⟩, xs, b0, b1, b2, b3, hL, hN⟩ := k4
    obtain ⟨z0, z1, z2, z3, z4⟩ := hZ
    simp only [Nat.zero_add] at x1 x2 x3 x4 z1 z2 z3 z4
    go_wp2_with fail
    refine (compare_points _ _ _ _ A B C D (rep_in A1 A2) (rep_in B1 B2) (rep_in C1 C2) (rep_in D1 D2) A1 A2 B1 B2 C1 C2 D1 D2 _).mono ?_
    rintro e w5 ⟨rfl, hb⟩
    have k5 := (k4h.out.below hb).2.2.2.2.2.2.1
    clear k4h hb x0 x1 x2 x3 x4 xs b0 b1 b2 b3 hL hN z0 z1 z2 z3 z4 m1 m2 PZ
    have k5h := Lib.hid k5
    clear k5
    have hO := ordI_zero A B C D
    by_cases hCA : C = A
    · by_cases hDB : D = B
      · have o1 : (ordI A B C D == 0) = true := by rw [beq_iff_eq]; exact hO.2 ⟨hCA.symm, hDB.symm⟩
        have o2 : (C == A) = true := by simp [hCA]
        have o3 : (D == B) = true := by simp [hDB]
        clear hCA hDB hO
        go_wp2_with fail
        refine (awake_true _).mono ?_
        rintro e w6 ⟨rfl, hb⟩
        go_wp2
        go_ret
        exact ⟨rfl, k5h.out.trans (hb.mono k5h.out.size)⟩
      · have o1 : (ordI A B C D == 0) = false := by rw [beq_eq_false_iff_ne]; exact fun h => hDB (hO.1 h).2.symm
        have o2 : (C == A) = true := by simp [hCA]
        have o3 : (D == B) = false := by simp [hDB]
        clear hCA hDB hO
        go_wp2_with fail
        refine (awake_true _).mono ?_
        rintro e w6 ⟨rfl, hb⟩
        go_wp2
        go_ret
        exact ⟨rfl, k5h.out.trans (hb.mono k5h.out.size)⟩
    · have o1 : (ordI A B C D == 0) = false := by rw [beq_eq_false_iff_ne]; exact fun h => hCA (hO.1 h).1.symm
      have o2 : (C == A) = false := by simp [hCA]
      clear hCA hO
      go_wp2_with fail
      refine (awake_true _).mono ?_
      rintro e w6 ⟨rfl, hb⟩
      go_wp2
      go_ret
      exact ⟨rfl, k5h.out.trans (hb.mono k5h.out.size)⟩
end Go.Proofs.Ytjahennckibleaa
