/-
Arithmetic of whole numbers in float64 is exact: what floats that stand for whole numbers below 2^53 give when they are added, subtracted, multiplied, compared and turned into integers. No program is named here.
-/
import Derived.Laws.ComplexArith
namespace Go.Proofs.YtbafplnolmdlnaaDoor
open Ieee

def sgn (s : Bool) (m : Nat) : Int := if s then -(m : Int) else m

theorem signed_eq (s : Bool) (m k : Nat) : signed s m k = sgn s m * 2 ^ k := by
  unfold signed sgn
  rw [Nat.shiftLeft_eq]
  cases s <;> simp [Int.neg_mul]

def IsInt (d : Datum) (n : Int) : Prop := ∃ s m e, d = .number s m e ∧ sgn s m * 2 ^ e.toNat = n * 2 ^ (-e).toNat

def Rep (b : Nat) (n : Int) : Prop := IsInt (double.read b) n

theorem two_pow_pos' (k : Nat) : (0 : Int) < 2 ^ k := Int.pow_pos (by decide)

theorem sgn_natAbs (s : Bool) (m : Nat) : (sgn s m).natAbs = m := by
  unfold sgn; cases s <;> simp

theorem log2_mul_pow (x k : Nat) (h : x ≠ 0) : (x * 2 ^ k).log2 = x.log2 + k := by
  have hx : x * 2 ^ k ≠ 0 := Nat.mul_ne_zero h (Nat.pos_iff_ne_zero.1 (Nat.two_pow_pos k))
  rw [Nat.log2_eq_iff hx]
  have h1 := Nat.log2_self_le h
  have h2 := @Nat.lt_log2_self x
  have hp := Nat.two_pow_pos k
  constructor
  · rw [Nat.pow_add]; exact Nat.mul_le_mul_right _ h1
  · rw [show x.log2 + k + 1 = (x.log2 + 1) + k by omega, Nat.pow_add]; exact (Nat.mul_lt_mul_right hp).2 h2

theorem cut_exact (way : Toward) (s : Bool) (K D : Nat) : way.cut s (K * 2 ^ D) D = K := by
  have hg : (1 <<< min D ((K * 2 ^ D).log2 + 2)) = 2 ^ (min D ((K * 2 ^ D).log2 + 2)) := by rw [Nat.shiftLeft_eq, Nat.one_mul]
  by_cases hK : K = 0
  · subst hK
    unfold Toward.cut
    cases way <;> simp
    all_goals have := Nat.two_pow_pos (min D 2)
    all_goals simp [Nat.shiftLeft_eq]
    all_goals omega
  · have hl := log2_mul_pow K D hK
    have hm : min D ((K * 2 ^ D).log2 + 2) = D := by rw [hl]; omega
    unfold Toward.cut
    rw [hm]
    have hp := Nat.two_pow_pos D
    have h1 : K * 2 ^ D / 1 <<< D = K := by rw [Nat.shiftLeft_eq, Nat.one_mul]; exact Nat.mul_div_cancel _ hp
    have h2 : K * 2 ^ D % 1 <<< D = 0 := by rw [Nat.shiftLeft_eq, Nat.one_mul]; exact Nat.mul_mod_left _ _
    simp only [h1, h2]
    have h3 : ((1 <<< D) == 2 * 0) = false := by rw [Nat.shiftLeft_eq, Nat.one_mul]; simp
    cases way <;> simp [h3]
theorem read_pos (s : Bool) (p K : Nat) (hp : p ≤ 52) (h1 : 4503599627370496 ≤ K) (h2 : K < 9007199254740992) :
    double.read (double.word s (min ((1074 - p) * 4503599627370496 + K) (2047 * 4503599627370496))) = .number s K (-(p : Int)) := by
  have hm : min ((1074 - p) * 4503599627370496 + K) (2047 * 4503599627370496) = (1074 - p) * 4503599627370496 + K := by omega
  rw [hm]
  have hsw : double.signWeight = 9223372036854775808 := by decide
  have hbn : double.binade = 4503599627370496 := by decide
  have hinf : double.infRung = 2047 * 4503599627370496 := by decide
  have hlp : double.leastPlace = -1074 := by decide
  unfold Format.read Format.word
  rw [hsw, hbn, hinf, hlp]
  generalize hr : (1074 - p) * 4503599627370496 + K = r
  have hr1 : r < 9223372036854775808 := by omega
  have e1 : (if s = true then 9223372036854775808 + r else r) % 9223372036854775808 = r := by cases s <;> simp <;> omega
  have e2 : ((if s = true then 9223372036854775808 + r else r) / 9223372036854775808 % 2 == 1) = s := by
    cases s
    · simp; omega
    · simp; omega
  simp only [e1, e2]
  have e3 : ¬ r < 4503599627370496 := by omega
  have e4 : r < 2047 * 4503599627370496 := by omega
  rw [if_neg e3, if_pos e4]
  have e5 : r % 4503599627370496 = K - 4503599627370496 := by omega
  have e6 : r / 4503599627370496 = 1075 - p := by omega
  rw [e5, e6, show 4503599627370496 + (K - 4503599627370496) = K by omega, show ((-1074 : Int) + ((1075 - p - 1 : Nat) : Int)) = -(p : Int) by omega]

theorem read_zero (s : Bool) : double.read (double.word s 0) = .number s 0 (-1074) := by
  cases s <;> decide

theorem rep_write {d : Datum} {n : Int} (h : IsInt d n) (hn : n.natAbs < 9007199254740992) : Rep (double.write d) n := by
  obtain ⟨s, m, e, rfl, hv⟩ := h
  unfold Rep
  show IsInt (double.read (double.nearest s m e)) n
  unfold Format.nearest
  by_cases hm : m = 0
  · subst hm
    rw [if_pos rfl, read_zero]
    refine ⟨s, 0, -1074, rfl, ?_⟩
    have h0 : sgn s 0 = 0 := by cases s <;> rfl
    rw [h0] at hv ⊢
    have : n = 0 := by
      rw [Int.zero_mul] at hv
      rcases Int.mul_eq_zero.1 hv.symm with h | h
      · exact h
      · have := two_pow_pos' (-e).toNat; omega
    subst this
    rw [Int.zero_mul, Int.zero_mul]
  · rw [if_neg hm]
    have hfb : double.fractionBits = 52 := rfl
    have hlp : double.leastPlace = -1074 := by decide
    have hbn : double.binade = 4503599627370496 := by decide
    have hinf : double.infRung = 2047 * 4503599627370496 := by decide
    -- the magnitude
    have hN : m * 2 ^ e.toNat = n.natAbs * 2 ^ (-e).toNat := by
      have := congrArg Int.natAbs hv
      rw [Int.natAbs_mul, Int.natAbs_mul, sgn_natAbs, Int.natAbs_pow, Int.natAbs_pow] at this
      exact this
    have hn0 : n.natAbs ≠ 0 := by
      intro h0; rw [h0, Nat.zero_mul] at hN
      have := Nat.two_pow_pos e.toNat
      rcases Nat.mul_eq_zero.1 hN with h | h <;> omega
    have hsg : sgn s n.natAbs = n := by
      unfold sgn at hv ⊢
      have p1 := two_pow_pos' e.toNat
      have p2 := two_pow_pos' (-e).toNat
      cases s
      · simp at hv ⊢
        have : 0 ≤ n := by
          have : 0 ≤ n * 2 ^ (-e).toNat := by rw [← hv]; exact Int.mul_nonneg (by omega) (by omega)
          exact Int.nonneg_of_mul_nonneg_left this p2
        omega
      · simp at hv ⊢
        have : n ≤ 0 := by
          have h3 : 0 ≤ (-n) * 2 ^ (-e).toNat := by rw [Int.neg_mul, ← hv]; rw [Int.neg_mul, Int.neg_neg]; exact Int.mul_nonneg (by omega) (by omega)
          have := Int.nonneg_of_mul_nonneg_left h3 p2
          omega
        omega
    generalize hNN : n.natAbs = N at *
    have hL : m.log2 + e.toNat = N.log2 + (-e).toNat := by
      rw [← log2_mul_pow m _ hm, ← log2_mul_pow N _ hn0, hN]
    have hL52 : N.log2 ≤ 52 := by
      have := (Nat.log2_lt hn0 (k := 53)).2 (by simpa using hn)
      omega
    have hpl := Nat.log2_self_le hn0
    have hpu := @Nat.lt_log2_self N
    generalize hl : N.log2 = L at *
    obtain ⟨p, hp⟩ : ∃ p, p = 52 - L := ⟨_, rfl⟩
    have hlast : max (e + (m.log2 : Int) - (double.fractionBits : Int)) double.leastPlace = -(p : Int) := by
      rw [hfb, hlp]; omega
    simp only [hlast]
    have hK1 : 4503599627370496 ≤ N * 2 ^ p := by
      have : (4503599627370496 : Nat) = 2 ^ L * 2 ^ p := by rw [← Nat.pow_add, hp, show L + (52 - L) = 52 by omega]
      rw [this]; exact Nat.mul_le_mul_right _ hpl
    have hK2 : N * 2 ^ p < 9007199254740992 := by
      have : (9007199254740992 : Nat) = 2 ^ (L + 1) * 2 ^ p := by rw [← Nat.pow_add, hp, show L + 1 + (52 - L) = 53 by omega]
      rw [this]; exact (Nat.mul_lt_mul_right (Nat.two_pow_pos p)).2 hpu
    have hcut : m <<< (e - -(p : Int)).toNat = (N * 2 ^ p) * 2 ^ (-(p : Int) - e).toNat := by
      rw [Nat.shiftLeft_eq]
      by_cases he : 0 ≤ e
      · have h1 : (-e).toNat = 0 := by omega
        rw [h1, Nat.pow_zero, Nat.mul_one] at hN
        have h2 : (-(p : Int) - e).toNat = 0 := by omega
        have h3 : (e - -(p : Int)).toNat = e.toNat + p := by omega
        rw [h2, h3, Nat.pow_zero, Nat.mul_one, Nat.pow_add, ← Nat.mul_assoc, hN]
      · have h1 : e.toNat = 0 := by omega
        rw [h1, Nat.pow_zero, Nat.mul_one] at hN
        rw [hN, Nat.mul_assoc, Nat.mul_assoc, ← Nat.pow_add, ← Nat.pow_add]
        congr 2
        omega
    rw [hcut, cut_exact, hlp, hbn, hinf]
    have h4 : (-(p : Int) - -1074).toNat = 1074 - p := by omega
    rw [h4]
    refine ⟨s, N * 2 ^ p, -(p : Int), read_pos s p (N * 2 ^ p) (by omega) hK1 hK2, ?_⟩
    have h5 : (-(p : Int)).toNat = 0 := by omega
    have h6 : (- -(p : Int)).toNat = p := by omega
    rw [h5, h6, Int.pow_zero, Int.mul_one]
    rw [← hsg]
    unfold sgn
    cases s <;> simp [Int.neg_mul]

theorem sgn_scale {s : Bool} {m : Nat} {i base : Int} {a : Int} (h : sgn s m * 2 ^ i.toNat = a * 2 ^ (-i).toNat) (hb : base ≤ i) :
    signed s m (i - base).toNat * 2 ^ base.toNat = a * 2 ^ (-base).toNat := by
  rw [signed_eq]
  rw [Int.mul_assoc, ← Int.pow_add]
  by_cases hb0 : 0 ≤ base
  · have h1 : (-i).toNat = 0 := by omega
    have h2 : (-base).toNat = 0 := by omega
    have h3 : (i - base).toNat + base.toNat = i.toNat := by omega
    rw [h1] at h; rw [h2, h3]; exact h
  · by_cases hi : 0 ≤ i
    · have h1 : (-i).toNat = 0 := by omega
      have h3 : (i - base).toNat + base.toNat = i.toNat + (-base).toNat := by omega
      rw [h1, Int.pow_zero, Int.mul_one] at h
      rw [h3, Int.pow_add, ← Int.mul_assoc, h]
    · have h1 : i.toNat = 0 := by omega
      have h3 : (-base).toNat = (-i).toNat + ((i - base).toNat + base.toNat) := by omega
      rw [h1, Int.pow_zero, Int.mul_one] at h
      rw [h3, Int.pow_add, ← Int.mul_assoc, h, Int.pow_add, Int.pow_add]
      ac_rfl

theorem signed_back (t : Bool) (X : Int) (h1 : X < 0 → t = true) (h2 : 0 < X → t = false) : sgn t X.natAbs = X := by
  unfold sgn
  rcases Int.lt_trichotomy X 0 with h | h | h
  · rw [h1 h]; simp; omega
  · subst h; cases t <;> rfl
  · rw [h2 h]; simp; omega

theorem isInt_sum {d f : Datum} {a b : Int} (hd : IsInt d a) (hf : IsInt f b) : ∃ g, d.sum f = some g ∧ IsInt g (a + b) := by
  obtain ⟨s, m, i, rfl, h1⟩ := hd
  obtain ⟨t, n, j, rfl, h2⟩ := hf
  refine ⟨_, rfl, _, _, _, rfl, ?_⟩
  have e1 := sgn_scale h1 (Int.min_le_left i j)
  have e2 := sgn_scale h2 (Int.min_le_right i j)
  generalize signed s m (i - min i j).toNat = X at *
  generalize signed t n (j - min i j).toNat = Y at *
  rw [signed_back, Int.add_mul, e1, e2, Int.add_mul]
  · intro h; rw [if_neg (by omega)]; simpa using h
  · intro h; rw [if_neg (by omega)]; simp; omega

theorem isInt_opposite {d : Datum} {a : Int} (hd : IsInt d a) : IsInt d.opposite (-a) := by
  obtain ⟨s, m, i, rfl, h1⟩ := hd
  refine ⟨!s, m, i, rfl, ?_⟩
  rw [Int.neg_mul, ← h1]
  unfold sgn; cases s <;> simp [Int.neg_mul]

theorem sgn_mul (s t : Bool) (m n : Nat) : sgn (s ^^ t) (m * n) = sgn s m * sgn t n := by
  unfold sgn; cases s <;> cases t <;> simp [Int.neg_mul, Int.mul_neg]

theorem isInt_product {d f : Datum} {a b : Int} (hd : IsInt d a) (hf : IsInt f b) : ∃ g, d.product f = some g ∧ IsInt g (a * b) := by
  obtain ⟨s, m, i, rfl, h1⟩ := hd
  obtain ⟨t, n, j, rfl, h2⟩ := hf
  refine ⟨_, rfl, _, _, _, rfl, ?_⟩
  rw [sgn_mul]
  have h3 : (sgn s m * sgn t n) * 2 ^ (i.toNat + j.toNat) = (a * b) * 2 ^ ((-i).toNat + (-j).toNat) := by
    rw [Int.pow_add, Int.pow_add]
    calc sgn s m * sgn t n * (2 ^ i.toNat * 2 ^ j.toNat) = (sgn s m * 2 ^ i.toNat) * (sgn t n * 2 ^ j.toNat) := by ac_rfl
      _ = (a * 2 ^ (-i).toNat) * (b * 2 ^ (-j).toNat) := by rw [h1, h2]
      _ = _ := by ac_rfl
  obtain ⟨c, hc1, hc2⟩ : ∃ c : Nat, i.toNat + j.toNat = (i + j).toNat + c ∧ (-i).toNat + (-j).toNat = (-(i + j)).toNat + c := ⟨i.toNat + j.toNat - (i + j).toNat, by omega, by omega⟩
  rw [hc1, hc2, Int.pow_add, Int.pow_add, ← Int.mul_assoc, ← Int.mul_assoc] at h3
  exact Int.eq_of_mul_eq_mul_right (by have := two_pow_pos' c; omega) h3

theorem rep_add {x y : Nat} {a b : Int} (hx : Rep x a) (hy : Rep y b) (h : (a + b).natAbs < 9007199254740992) : ∃ r, floatBits .add .f64 x y = some r ∧ Rep r (a + b) := by
  obtain ⟨g, hg, hi⟩ := isInt_sum hx hy
  refine ⟨double.write g, ?_, rep_write hi h⟩
  show ((double.read x).sum (double.read y)).map double.write = _
  rw [hg]; rfl

theorem rep_sub {x y : Nat} {a b : Int} (hx : Rep x a) (hy : Rep y b) (h : (a - b).natAbs < 9007199254740992) : ∃ r, floatBits .sub .f64 x y = some r ∧ Rep r (a - b) := by
  obtain ⟨g, hg, hi⟩ := isInt_sum hx (isInt_opposite hy)
  refine ⟨double.write g, ?_, rep_write (by rw [Int.sub_eq_add_neg]; exact hi) h⟩
  show ((double.read x).sum (double.read y).opposite).map double.write = _
  rw [hg]; rfl

theorem rep_mul {x y : Nat} {a b : Int} (hx : Rep x a) (hy : Rep y b) (h : (a * b).natAbs < 9007199254740992) : ∃ r, floatBits .mul .f64 x y = some r ∧ Rep r (a * b) := by
  obtain ⟨g, hg, hi⟩ := isInt_product hx hy
  refine ⟨double.write g, ?_, rep_write hi h⟩
  show ((double.read x).product (double.read y)).map double.write = _
  rw [hg]; rfl

theorem rep_ofInt (n : Int) (h : n.natAbs < 9007199254740992) : Rep (floatOfInt .f64 n) n := by
  show Rep (double.write (.number (n < 0) n.natAbs 0)) n
  refine rep_write ⟨_, _, _, rfl, ?_⟩ h
  rw [signed_back]
  · rfl
  · intro h; simpa using h
  · intro h; simp; omega

theorem rep_order {x y : Nat} {a b : Int} (hx : Rep x a) (hy : Rep y b) : FloatKind.f64.format.order x y = some (compare a b) := by
  obtain ⟨s, m, i, e1, h1⟩ := hx
  obtain ⟨t, n, j, e2, h2⟩ := hy
  show (double.read x).order (double.read y) = _
  rw [e1, e2]
  show some (compare (signed s m (i - min i j).toNat) (signed t n (j - min i j).toNat)) = some (compare a b)
  have e1 := sgn_scale h1 (Int.min_le_left i j)
  have e2 := sgn_scale h2 (Int.min_le_right i j)
  generalize signed s m (i - min i j).toNat = X at *
  generalize signed t n (j - min i j).toNat = Y at *
  have p1 := two_pow_pos' (min i j).toNat
  have p2 := two_pow_pos' (-(min i j)).toNat
  generalize (2 : Int) ^ (min i j).toNat = P at *
  generalize (2 : Int) ^ (-(min i j)).toNat = Q at *
  congr 1
  rcases Int.lt_trichotomy a b with h | h | h
  · have : X < Y := by
      have := Int.mul_lt_mul_of_pos_right h p2
      rw [← e1, ← e2] at this
      exact Int.lt_of_mul_lt_mul_right this (by omega)
    rw [Int.compare_eq_lt.2 this, Int.compare_eq_lt.2 h]
  · subst h
    have : X = Y := Int.eq_of_mul_eq_mul_right (by omega) (e1.trans e2.symm)
    subst this
    rw [Int.compare_eq_eq.2 rfl, Int.compare_eq_eq.2 rfl]
  · have : Y < X := by
      have := Int.mul_lt_mul_of_pos_right h p2
      rw [← e1, ← e2] at this
      exact Int.lt_of_mul_lt_mul_right this (by omega)
    rw [Int.compare_eq_gt.2 this, Int.compare_eq_gt.2 h]

theorem rep_toInt {x : Nat} {a : Int} (hx : Rep x a) (h : a.natAbs < 9007199254740992) : floatToIntVal .f64 x .i64 = some a := by
  obtain ⟨s, m, i, e1, h1⟩ := hx
  unfold floatToIntVal
  have hd : FloatKind.f64.decode x = .number s m i := e1
  have hin : ∀ w, (Datum.number s m i).toInt w = some a := by
    intro w
    unfold Datum.toInt Datum.integral
    simp only
    have hN : m * 2 ^ i.toNat = a.natAbs * 2 ^ (-i).toNat := by
      have := congrArg Int.natAbs h1
      rw [Int.natAbs_mul, Int.natAbs_mul, sgn_natAbs, Int.natAbs_pow, Int.natAbs_pow] at this
      exact this
    rw [Nat.shiftLeft_eq, hN, cut_exact, signed_eq, Int.pow_zero, Int.mul_one]
    congr 1
    have p1 := two_pow_pos' i.toNat
    have p2 := two_pow_pos' (-i).toNat
    refine signed_back s a (fun h => ?_) (fun h => ?_)
    · cases s
      · exfalso
        unfold sgn at h1; simp at h1
        have h3 : 0 ≤ a * 2 ^ (-i).toNat := by rw [← h1]; exact Int.mul_nonneg (by omega) (by omega)
        have := Int.nonneg_of_mul_nonneg_left h3 p2
        omega
      · rfl
    · cases s
      · rfl
      · exfalso
        unfold sgn at h1; simp at h1
        have h3 : 0 ≤ (-a) * 2 ^ (-i).toNat := by rw [Int.neg_mul, ← h1, Int.neg_mul, Int.neg_neg]; exact Int.mul_nonneg (by omega) (by omega)
        have := Int.nonneg_of_mul_nonneg_left h3 p2
        omega
  rw [hd, hin]
  simp only
  have h2 : IntKind.i64.min = -9223372036854775808 := by decide
  have h3 : IntKind.i64.max = 9223372036854775807 := by decide
  rw [h2, h3, if_pos (by omega)]
end Go.Proofs.YtbafplnolmdlnaaDoor
