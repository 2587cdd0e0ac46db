/-
Bookkeeping for the law ValueRing: points in their range, variables that hold points, sums and products of two of them; and the arithmetic that the law rests on. The walk itself is elsewhere.
-/
import Derived.Test.YtjahennckibleaaTrn
namespace Go.Proofs.Ytjahennckibleaa
open Go.RowKit

/-- A number in the range of a point's parts. -/
def InR (n : Int) : Prop := -1048576 ≤ n ∧ n ≤ 1048575

theorem inR_fold (n : Int) : InR (foldI n) := foldI_bd n

/-- The variables of a list (block, parts) hold their points. -/
def Hold (w0 : World) (l : List (Nat × Int × Int)) (w : World) : Prop :=
  Below w0.heap.size w0 w ∧ ∀ v, v ∈ l → v.1 < w.heap.size ∧ Five w v.1 0 5 (fb v.2.1) (fb v.2.2)

theorem Hold.below {w0 w w' : World} {l : List (Nat × Int × Int)} (h : Hold w0 l w) (hb : Below w.heap.size w w') : Hold w0 l w' :=
  ⟨h.1.trans (hb.mono h.1.size), fun v hv => ⟨Nat.lt_of_lt_of_le (h.2 v hv).1 hb.size, (h.2 v hv).2.below hb (h.2 v hv).1⟩⟩

theorem Hold.get {w0 w : World} {l : List (Nat × Int × Int)} (h : Hold w0 l w) (X : Nat) (A B : Int) (hv : (X, A, B) ∈ l) : Five w X 0 5 (fb A) (fb B) := (h.2 _ hv).2

theorem Hold.push {w0 w : World} {l : List (Nat × Int × Int)} (h : Hold w0 l w) (A B : Int) :
    Hold w0 ((w.heap.size, A, B) :: l) (w.alloc (.cells #[.int .i64 5, .int .i64 0, .string ⟨#[]⟩, .complex .f64 (fb A) (fb B), .slice none 0 0] 26)) := by
  have ha : Below w.heap.size w (w.alloc (.cells #[.int .i64 5, .int .i64 0, .string ⟨#[]⟩, .complex .f64 (fb A) (fb B), .slice none 0 0] 26)) := (Below.refl _ _).alloc (Nat.le_refl _) _
  have h' := h.below ha
  refine ⟨h'.1, fun v hv => ?_⟩
  rcases List.mem_cons.1 hv with rfl | hv
  · exact ⟨by simp, Five.new w 5 (fb A) (fb B) 26⟩
  · exact h'.2 v hv

theorem times_at (a b c d : Int) (ha : InR a) (hb : InR b) (hc : InR c) (hd : InR d) (w : World) (Z : Nat) (hZ : w.heap.size = Z) :
    Calls Try.prog 6 #[.slice (some ⟨Z, 0, none⟩) 2 2] (w.alloc (.cells #[.int .i64 5, .int .i64 0, .string ⟨#[]⟩, .complex .f64 (fb a) (fb b), .slice none 0 0, .int .i64 5, .int .i64 0, .string ⟨#[]⟩, .complex .f64 (fb c) (fb d), .slice none 0 0] 26)) fun e w' => e = .returned (.tuple #[.agg #[.int .i64 5, .int .i64 0, .string ⟨#[]⟩, .complex .f64 (fb (foldI (a * c - b * d))) (fb (foldI (a * d + b * c))), .slice none 0 0], .int .i64 0]) ∧ Below w.heap.size w w' := by
  subst hZ
  exact times_new a b c d ha.1 ha.2 hb.1 hb.2 hc.1 hc.2 hd.1 hd.2 w

theorem plus_at (a b c d : Int) (ha : InR a) (hb : InR b) (hc : InR c) (hd : InR d) (w : World) (Z : Nat) (hZ : w.heap.size = Z) :
    Calls Try.prog 7 #[.slice (some ⟨Z, 0, none⟩) 2 2] (w.alloc (.cells #[.int .i64 5, .int .i64 0, .string ⟨#[]⟩, .complex .f64 (fb a) (fb b), .slice none 0 0, .int .i64 5, .int .i64 0, .string ⟨#[]⟩, .complex .f64 (fb c) (fb d), .slice none 0 0] 26)) fun e w' => e = .returned (.tuple #[.agg #[.int .i64 5, .int .i64 0, .string ⟨#[]⟩, .complex .f64 (fb (foldI (a + c))) (fb (foldI (b + d))), .slice none 0 0], .int .i64 0]) ∧ Below w.heap.size w w' := by
  subst hZ
  exact plus_new a b c d ha.1 ha.2 hb.1 hb.2 hc.1 hc.2 hd.1 hd.2 w

theorem conj_at (a b : Int) (ha : InR a) (hb : InR b) (w : World) :
    Calls Try.prog 8 #[.agg #[.int .i64 5, .int .i64 0, .string ⟨#[]⟩, .complex .f64 (fb a) (fb b), .slice none 0 0]] w fun e w' => e = .returned (.tuple #[.agg #[.int .i64 5, .int .i64 0, .string ⟨#[]⟩, .complex .f64 (fb a) (fb (foldI (-b))), .slice none 0 0], .int .i64 0]) ∧ Below w.heap.size w w' :=
  conj_point _ _ a b (rep_in ha.1 ha.2) (rep_in hb.1 hb.2) ha.1 ha.2 hb.1 hb.2 w

theorem compare_at (a b c d : Int) (ha : InR a) (hb : InR b) (hc : InR c) (hd : InR d) (w : World) :
    Calls Try.prog 9 #[.agg #[.int .i64 5, .int .i64 0, .string ⟨#[]⟩, .complex .f64 (fb a) (fb b), .slice none 0 0], .agg #[.int .i64 5, .int .i64 0, .string ⟨#[]⟩, .complex .f64 (fb c) (fb d), .slice none 0 0]] w fun e w' => e = .returned (.tuple #[.int .i64 (ordI a b c d), .int .i64 0]) ∧ Below w.heap.size w w' :=
  compare_points _ _ _ _ a b c d (rep_in ha.1 ha.2) (rep_in hb.1 hb.2) (rep_in hc.1 hc.2) (rep_in hd.1 hd.2) ha.1 ha.2 hb.1 hb.2 hc.1 hc.2 hd.1 hd.2 w

/-! ### The arithmetic -/

/-- Alike modulo 2^21. -/
def Alike (m n : Int) : Prop := (2097152 : Int) ∣ m - n

theorem alike_fold (n : Int) : Alike (foldI n) n := by
  unfold Alike foldI
  exact ⟨-((n + 1048576) / 2097152), by omega⟩
theorem Alike.refl (n : Int) : Alike n n := ⟨0, by omega⟩
theorem Alike.symm {m n : Int} (h : Alike m n) : Alike n m := by
  obtain ⟨k, hk⟩ := h
  exact ⟨-k, by omega⟩
theorem Alike.trans {m n p : Int} (h : Alike m n) (k : Alike n p) : Alike m p := by
  obtain ⟨i, hi⟩ := h
  obtain ⟨j, hj⟩ := k
  exact ⟨i + j, by omega⟩
theorem Alike.add {m n p q : Int} (h : Alike m n) (k : Alike p q) : Alike (m + p) (n + q) := by
  obtain ⟨i, hi⟩ := h
  obtain ⟨j, hj⟩ := k
  exact ⟨i + j, by omega⟩
theorem Alike.sub {m n p q : Int} (h : Alike m n) (k : Alike p q) : Alike (m - p) (n - q) := by
  obtain ⟨i, hi⟩ := h
  obtain ⟨j, hj⟩ := k
  exact ⟨i - j, by omega⟩
theorem Alike.neg {m n : Int} (h : Alike m n) : Alike (-m) (-n) := by
  obtain ⟨i, hi⟩ := h
  exact ⟨-i, by omega⟩
theorem Alike.mul {m n p q : Int} (h : Alike m n) (k : Alike p q) : Alike (m * p) (n * q) := by
  obtain ⟨i, hi⟩ := h
  obtain ⟨j, hj⟩ := k
  obtain rfl : m = n + 2097152 * i := by omega
  obtain rfl : p = q + 2097152 * j := by omega
  refine ⟨i * q + n * j + 2097152 * (i * j), ?_⟩
  simp only [Int.add_mul, Int.mul_add, Int.mul_assoc]
  have e1 : n * (2097152 * j) = 2097152 * (n * j) := by ac_rfl
  have e2 : i * (2097152 * j) = 2097152 * (i * j) := by ac_rfl
  rw [e1, e2]
  omega
theorem fold_alike {m n : Int} (h : Alike m n) : foldI m = foldI n := by
  obtain ⟨i, hi⟩ := h
  unfold foldI
  omega

/-- The real and the imaginary part of a product. -/
def mre (a b c d : Int) : Int := foldI (a * c - b * d)
def mim (a b c d : Int) : Int := foldI (a * d + b * c)

theorem inR_mre (a b c d : Int) : InR (mre a b c d) := inR_fold _
theorem inR_mim (a b c d : Int) : InR (mim a b c d) := inR_fold _

theorem ring_comm (a b c d : Int) : mre a b c d = mre c d a b ∧ mim a b c d = mim c d a b := by
  unfold mre mim
  rw [Int.mul_comm c a, Int.mul_comm d b, Int.mul_comm c b, Int.mul_comm d a, Int.add_comm (b * c)]
  exact ⟨rfl, rfl⟩

theorem ring_assoc (a b c d e f : Int) : mre (mre a b c d) (mim a b c d) e f = mre a b (mre c d e f) (mim c d e f) ∧ mim (mre a b c d) (mim a b c d) e f = mim a b (mre c d e f) (mim c d e f) := by
  have r1 := alike_fold (a * c - b * d)
  have i1 := alike_fold (a * d + b * c)
  have r2 := alike_fold (c * e - d * f)
  have i2 := alike_fold (c * f + d * e)
  constructor
  · refine fold_alike (Alike.trans ((r1.mul (Alike.refl e)).sub (i1.mul (Alike.refl f))) (Alike.trans ?_ (((Alike.refl a).mul r2).sub ((Alike.refl b).mul i2)).symm))
    have : (a * c - b * d) * e - (a * d + b * c) * f = a * (c * e - d * f) - b * (c * f + d * e) := by
      simp only [Int.sub_mul, Int.add_mul, Int.mul_sub, Int.mul_add, Int.mul_assoc]
      have e1 : b * (c * f) = c * (b * f) := by ac_rfl
      omega
    rw [this]
    exact Alike.refl _
  · refine fold_alike (Alike.trans ((r1.mul (Alike.refl f)).add (i1.mul (Alike.refl e))) (Alike.trans ?_ (((Alike.refl a).mul i2).add ((Alike.refl b).mul r2)).symm))
    have : (a * c - b * d) * f + (a * d + b * c) * e = a * (c * f + d * e) + b * (c * e - d * f) := by
      simp only [Int.sub_mul, Int.add_mul, Int.mul_sub, Int.mul_add, Int.mul_assoc]
      omega
    rw [this]
    exact Alike.refl _

theorem ring_over (a b c d e f : Int) :
    mre a b (foldI (c + e)) (foldI (d + f)) = foldI (mre a b c d + mre a b e f) ∧ mim a b (foldI (c + e)) (foldI (d + f)) = foldI (mim a b c d + mim a b e f) := by
  have s1 := alike_fold (c + e)
  have s2 := alike_fold (d + f)
  have r1 := alike_fold (a * c - b * d)
  have i1 := alike_fold (a * d + b * c)
  have r2 := alike_fold (a * e - b * f)
  have i2 := alike_fold (a * f + b * e)
  constructor
  · refine fold_alike (Alike.trans (((Alike.refl a).mul s1).sub ((Alike.refl b).mul s2)) (Alike.trans ?_ (r1.add r2).symm))
    have : a * (c + e) - b * (d + f) = a * c - b * d + (a * e - b * f) := by
      simp only [Int.mul_add]
      omega
    rw [this]
    exact Alike.refl _
  · refine fold_alike (Alike.trans (((Alike.refl a).mul s2).add ((Alike.refl b).mul s1)) (Alike.trans ?_ (i1.add i2).symm))
    have : a * (d + f) + b * (c + e) = a * d + b * c + (a * f + b * e) := by
      simp only [Int.mul_add]
      omega
    rw [this]
    exact Alike.refl _

theorem ring_turn (a b c d : Int) : mre a (foldI (-b)) c (foldI (-d)) = mre a b c d ∧ mim a (foldI (-b)) c (foldI (-d)) = foldI (-(mim a b c d)) := by
  have n1 := alike_fold (-b)
  have n2 := alike_fold (-d)
  have i1 := alike_fold (a * d + b * c)
  constructor
  · refine fold_alike (Alike.trans (((Alike.refl a).mul (Alike.refl c)).sub (n1.mul n2)) ?_)
    have : a * c - -b * -d = a * c - b * d := by rw [Int.neg_mul_neg]
    rw [this]
    exact Alike.refl _
  · refine fold_alike (Alike.trans (((Alike.refl a).mul n2).add (n1.mul (Alike.refl c))) (Alike.trans ?_ i1.neg.symm))
    have : a * -d + -b * c = -(a * d + b * c) := by rw [Int.mul_neg, Int.neg_mul]; omega
    rw [this]
    exact Alike.refl _

theorem ring_again (b : Int) (h : InR b) : foldI (-(foldI (-b))) = b := by
  obtain ⟨h1, h2⟩ := h
  unfold foldI
  omega
end Go.Proofs.Ytjahennckibleaa
