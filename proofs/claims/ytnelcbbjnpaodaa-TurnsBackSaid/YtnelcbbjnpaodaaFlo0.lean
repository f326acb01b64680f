/- FLOATS THAT ARE WHOLE NUMBERS: what is added, changed in sign, or multiplied of whole numbers below 2^53 is whole and exact; plain facts, over no program. -/
import Derived.WalkLawsBesides
set_option maxRecDepth 100000
set_option linter.unusedVariables false
set_option linter.unusedSimpArgs false
namespace Go.Proofs.Ytnelcbbjnpaodaa
open Go Ieee

/-- a datum is the whole number n -/
def Rep (d : Datum) (n : Int) : Prop := ∃ s m, ∃ k : Nat, d = .number s m (-(k : Int)) ∧ signed s m 0 = n * ((2 ^ k : Nat) : Int)
theorem signed_shift (s : Bool) (m k : Nat) : signed s m k = signed s m 0 * ((2 ^ k : Nat) : Int) := by
  unfold signed
  cases s <;> simp [Nat.shiftLeft_eq, Int.neg_mul]
theorem signed_abs (s : Bool) (m : Nat) : (signed s m 0).natAbs = m := by
  unfold signed; cases s <;> simp
theorem rep_zero (s : Bool) (k : Nat) : Rep (.number s 0 (-(k : Int))) 0 := ⟨s, 0, k, rfl, by unfold signed; cases s <;> simp⟩
theorem rep_of_int (n : Int) : Rep (.number (n < 0) n.natAbs 0) n := ⟨_, _, 0, rfl, by
  unfold signed
  by_cases h : n < 0
  · simp [h]; omega
  · simp [h]; omega⟩
theorem rep_opp {d : Datum} {n : Int} (h : Rep d n) : Rep d.opposite (-n) := by
  obtain ⟨s, m, k, rfl, e⟩ := h
  refine ⟨!s, m, k, rfl, ?_⟩
  have : signed (!s) m 0 = - signed s m 0 := by unfold signed; cases s <;> simp
  rw [this, e, Int.neg_mul]
theorem rep_sum {d e : Datum} {a b : Int} (hd : Rep d a) (he : Rep e b) : ∃ f, d.sum e = some f ∧ Rep f (a + b) := by
  obtain ⟨s, m, i, rfl, e1⟩ := hd
  obtain ⟨t, n, j, rfl, e2⟩ := he
  refine ⟨_, rfl, ?_⟩
  let K := max i j
  have hb : min (-(i : Int)) (-(j : Int)) = -((max i j : Nat) : Int) := by omega
  have h1 : (-(i : Int) - -((max i j : Nat) : Int)).toNat = max i j - i := by omega
  have h2 : (-(j : Int) - -((max i j : Nat) : Int)).toNat = max i j - j := by omega
  rw [hb, h1, h2, signed_shift s, signed_shift t, e1, e2]
  have p1 : ((2 ^ i : Nat) : Int) * ((2 ^ (max i j - i) : Nat) : Int) = ((2 ^ (max i j) : Nat) : Int) := by rw [← Int.natCast_mul, ← Nat.pow_add]; congr 2; omega
  have p2 : ((2 ^ j : Nat) : Int) * ((2 ^ (max i j - j) : Nat) : Int) = ((2 ^ (max i j) : Nat) : Int) := by rw [← Int.natCast_mul, ← Nat.pow_add]; congr 2; omega
  rw [Int.mul_assoc, p1, Int.mul_assoc, p2, ← Int.add_mul]
  refine ⟨_, _, max i j, rfl, ?_⟩
  generalize (a + b) * ((2 ^ max i j : Nat) : Int) = T
  unfold signed
  by_cases h0 : T = 0
  · subst h0; simp
  · by_cases h : T < 0
    · simp [h, h0]; omega
    · simp [h, h0]; omega
theorem rep_prod {d e : Datum} {a b : Int} (hd : Rep d a) (he : Rep e b) : ∃ f, d.product e = some f ∧ Rep f (a * b) := by
  obtain ⟨s, m, i, rfl, e1⟩ := hd
  obtain ⟨t, n, j, rfl, e2⟩ := he
  refine ⟨.number (s ^^ t) (m * n) (-(i : Int) + -(j : Int)), rfl, s ^^ t, m * n, i + j, ?_, ?_⟩
  · rw [Int.natCast_add]; congr 1; omega
  · have hs : signed (s ^^ t) (m * n) 0 = signed s m 0 * signed t n 0 := by
      unfold signed
      cases s <;> cases t <;> simp [Int.neg_mul, Int.mul_neg]
    rw [hs, e1, e2, Nat.pow_add, Int.natCast_mul]
    simp only [Int.mul_assoc, Int.mul_left_comm]
theorem rep_toInt {d : Datum} {n : Int} (h : Rep d n) : d.toInt .zero = some n := by
  obtain ⟨s, m, k, rfl, e⟩ := h
  have hm : m = n.natAbs * 2 ^ k := by
    have := congrArg Int.natAbs e
    rw [signed_abs, Int.natAbs_mul, Int.natAbs_natCast] at this
    exact this
  have hsg : ∀ N : Nat, m = N * 2 ^ k → signed s N 0 = n := by
    intro N hN
    have hp : ((2 ^ k : Nat) : Int) ≠ 0 := by have := Nat.two_pow_pos k; omega
    refine Int.eq_of_mul_eq_mul_right hp ?_
    rw [← e, hN]
    unfold signed; cases s <;> simp [Int.neg_mul]
  have hneg : ((-(k : Int)).toNat) = 0 := by omega
  have hpos : ((- -(k : Int)).toNat) = k := by omega
  simp only [Datum.toInt, Datum.integral, hneg, hpos, Nat.shiftLeft_zero, Toward.cut, Bool.toNat_false, Nat.add_zero]
  have hgap : m / (1 <<< min k (m.log2 + 2)) = n.natAbs := by
    rw [Nat.shiftLeft_eq, Nat.one_mul]
    by_cases hz : n.natAbs = 0
    · rw [hz] at hm ⊢; simp [hm]
    · have hk : k ≤ m.log2 + 2 := by
        have h1 : 2 ^ k ≤ m := by
          rw [hm]; exact Nat.le_mul_of_pos_left _ (Nat.pos_of_ne_zero hz)
        have : k ≤ m.log2 := (Nat.le_log2 (by have := Nat.two_pow_pos k; omega)).2 h1
        omega
      rw [Nat.min_eq_left hk, hm, Nat.mul_div_cancel _ (Nat.two_pow_pos k)]
  rw [hgap, hsg _ hm]
theorem cut_exact (neg : Bool) (N k d : Nat) (hN : N ≠ 0) (hd : d ≤ k) : Toward.even.cut neg (N * 2 ^ k) d = N * 2 ^ (k - d) := by
  have hlog : d ≤ (N * 2 ^ k).log2 + 2 := by
    have h1 : 2 ^ k ≤ N * 2 ^ k := Nat.le_mul_of_pos_left _ (Nat.pos_of_ne_zero hN)
    have : k ≤ (N * 2 ^ k).log2 := (Nat.le_log2 (by have := Nat.two_pow_pos k; omega)).2 h1
    omega
  have e : N * 2 ^ k = N * 2 ^ (k - d) * 2 ^ d := by rw [Nat.mul_assoc, ← Nat.pow_add]; congr 2; omega
  unfold Toward.cut
  rw [Nat.min_eq_left hlog, Nat.shiftLeft_eq, Nat.one_mul]
  have hr : (N * 2 ^ k) % 2 ^ d = 0 := by rw [e, Nat.mul_mod_left]
  have hq : (N * 2 ^ k) / 2 ^ d = N * 2 ^ (k - d) := by rw [e, Nat.mul_div_cancel _ (Nat.two_pow_pos d)]
  have hp : (2 ^ d == 0) = false := by have := Nat.two_pow_pos d; simp
  simp [hr, hq, hp]
theorem two63 : double.signWeight = 9223372036854775808 := by decide
theorem bin52 : double.binade = 4503599627370496 := by decide
theorem inf2047 : double.infRung = 9218868437227405312 := by decide
theorem least1074 : double.leastPlace = -1074 := by decide
theorem read_word (s : Bool) (r : Nat) (h : r < 9223372036854775808) : (double.word s r / double.signWeight % 2 == 1) = s ∧ double.word s r % double.signWeight = r := by
  rw [two63]; unfold Format.word; rw [two63]
  cases s
  · simp only [Bool.false_eq_true, if_false]; rw [Nat.div_eq_of_lt h, Nat.mod_eq_of_lt h]; simp
  · simp only [if_true]; constructor
    · rw [Nat.add_div_left _ (by decide), Nat.div_eq_of_lt h]; rfl
    · rw [Nat.add_mod_left, Nat.mod_eq_of_lt h]
theorem rung_lt (L Q : Nat) (hL : L ≤ 52) (hQ : Q < 9007199254740992) : (L + 1022) * 4503599627370496 + Q < 9223372036854775808 := by omega
theorem rung_le (L Q : Nat) (hL : L ≤ 52) (hQ : Q < 9007199254740992) : (L + 1022) * 4503599627370496 + Q < 9218868437227405312 := by omega
theorem rung_ge (L Q : Nat) (hQ : 4503599627370496 ≤ Q) : ¬ (L + 1022) * 4503599627370496 + Q < 4503599627370496 := by omega
theorem rung_mod (L Q : Nat) (h1 : 4503599627370496 ≤ Q) (hQ : Q < 9007199254740992) : ((L + 1022) * 4503599627370496 + Q) % 4503599627370496 = Q - 4503599627370496 := by omega
theorem rung_div (L Q : Nat) (h1 : 4503599627370496 ≤ Q) (hQ : Q < 9007199254740992) : ((L + 1022) * 4503599627370496 + Q) / 4503599627370496 = L + 1023 := by omega
/-- WHAT IS WRITTEN OF A WHOLE NUMBER BELOW 2^53 IS READ AS IT. -/
theorem rep_write {d : Datum} {n : Int} (h : Rep d n) (hn : n.natAbs < 9007199254740992) : Rep (double.read (double.write d)) n := by
  obtain ⟨s, m, k, rfl, e⟩ := h
  have hm : m = n.natAbs * 2 ^ k := by
    have := congrArg Int.natAbs e
    rw [signed_abs, Int.natAbs_mul, Int.natAbs_natCast] at this
    exact this
  generalize hNN : n.natAbs = N at *
  by_cases hz : N = 0
  · have hm0 : m = 0 := by rw [hm, hz, Nat.zero_mul]
    have hn0 : n = 0 := by omega
    subst hm0; subst hn0
    simp only [Format.write, Format.nearest, if_true]
    obtain ⟨r1, r2⟩ := read_word s 0 (by decide)
    unfold Format.read
    simp only [r1, r2, bin52, least1074]
    exact rep_zero s 1074
  · have hm0 : m ≠ 0 := by rw [hm]; exact Nat.mul_ne_zero hz (by have := Nat.two_pow_pos k; omega)
    have hlog : m.log2 = N.log2 + k := by
      rw [Nat.log2_eq_iff hm0, hm]
      have h1 := Nat.log2_self_le hz
      have h2 : N < 2 ^ (N.log2 + 1) := Nat.lt_log2_self
      rw [show N.log2 + k + 1 = N.log2 + 1 + k by omega, Nat.pow_add, Nat.pow_add]
      exact ⟨Nat.mul_le_mul_right _ h1, Nat.mul_lt_mul_of_pos_right h2 (Nat.two_pow_pos k)⟩
    have hL : N.log2 ≤ 52 := by
      have := (Nat.log2_lt hz).2 (show N < 2 ^ 53 from hn); omega
    have h2L : 2 ^ N.log2 ≤ N := Nat.log2_self_le hz
    have h3L : N < 2 ^ (N.log2 + 1) := Nat.lt_log2_self
    generalize hLL : N.log2 = L at *
    have hlast : max (-(k : Int) + (m.log2 : Int) - (double.fractionBits : Int)) double.leastPlace = (L : Int) - 52 := by
      rw [hlog, least1074]; show max (-(k : Int) + ((L + k : Nat) : Int) - 52) (-1074) = _; omega
    have hkept : Toward.even.cut s (m <<< (-(k : Int) - ((L : Int) - 52)).toNat) (((L : Int) - 52) - -(k : Int)).toNat = N * 2 ^ (52 - L) := by
      rw [Nat.shiftLeft_eq, hm]
      by_cases hk : k + L ≤ 52
      · rw [show (((L : Int) - 52) - -(k : Int)).toNat = 0 by omega, show (-(k : Int) - ((L : Int) - 52)).toNat = 52 - L - k by omega, Nat.mul_assoc, ← Nat.pow_add, cut_exact s N _ 0 hz (by omega)]
        congr 2; omega
      · rw [show (((L : Int) - 52) - -(k : Int)).toNat = k + L - 52 by omega, show (-(k : Int) - ((L : Int) - 52)).toNat = 0 by omega, Nat.pow_zero, Nat.mul_one, cut_exact s N k _ hz (by omega)]
        congr 2; omega
    have hlo : 4503599627370496 ≤ N * 2 ^ (52 - L) := by
      have : 2 ^ L * 2 ^ (52 - L) ≤ N * 2 ^ (52 - L) := Nat.mul_le_mul_right _ h2L
      rw [← Nat.pow_add, show L + (52 - L) = 52 by omega] at this
      exact this
    have hhi : N * 2 ^ (52 - L) < 9007199254740992 := by
      have : N * 2 ^ (52 - L) < 2 ^ (L + 1) * 2 ^ (52 - L) := Nat.mul_lt_mul_of_pos_right h3L (Nat.two_pow_pos _)
      rw [← Nat.pow_add, show L + 1 + (52 - L) = 53 by omega] at this
      exact this
    simp only [Format.write, Format.nearest, hm0, if_false, hlast, hkept]
    simp only [least1074, bin52, inf2047]
    have hpl : ((L : Int) - 52 - -1074).toNat = L + 1022 := by omega
    rw [hpl]
    generalize hQ : N * 2 ^ (52 - L) = Q at *
    have hmin : min ((L + 1022) * 4503599627370496 + Q) 9218868437227405312 = (L + 1022) * 4503599627370496 + Q := Nat.min_eq_left (Nat.le_of_lt (rung_le L Q hL hhi))
    rw [hmin]
    obtain ⟨r1, r2⟩ := read_word s ((L + 1022) * 4503599627370496 + Q) (rung_lt L Q hL hhi)
    unfold Format.read
    simp only [r1, r2, bin52, inf2047, least1074]
    rw [if_neg (rung_ge L Q hlo), if_pos (rung_le L Q hL hhi), rung_mod L Q hlo hhi, rung_div L Q hlo hhi]
    have t1 : 4503599627370496 + (Q - 4503599627370496) = Q := Nat.add_sub_cancel' hlo
    have t2 : (-1074 : Int) + ((L + 1023 - 1 : Nat) : Int) = -((52 - L : Nat) : Int) := by clear hkept hQ t1; omega
    rw [t1, t2]
    refine ⟨s, Q, 52 - L, rfl, ?_⟩
    have hs : signed s m 0 = signed s N 0 * ((2 ^ k : Nat) : Int) := by rw [hm]; unfold signed; cases s <;> simp [Int.neg_mul]
    have hp : ((2 ^ k : Nat) : Int) ≠ 0 := by have := Nat.two_pow_pos k; omega
    have hsn : signed s N 0 = n := Int.eq_of_mul_eq_mul_right hp (hs ▸ e)
    rw [← hsn, ← hQ]; unfold signed; cases s <;> simp [Int.neg_mul]

/-- the bits b are the whole number n, which lies below 2^53 -/
def IsI (b : Nat) (n : Int) : Prop := Rep (FloatKind.f64.decode b) n ∧ n.natAbs < 9007199254740992
theorem dec64 (b : Nat) : FloatKind.f64.decode b = double.read b := rfl
theorem enc64 (d : Datum) : FloatKind.f64.encode d = double.write d := rfl
theorem dec_zero : FloatKind.f64.decode 0 = .number false 0 (-((1074 : Nat) : Int)) := by decide
theorem isI_zero : IsI 0 0 := ⟨dec_zero ▸ rep_zero false 1074, by decide⟩
theorem isI_one : IsI 4607182418800017408 1 := ⟨⟨false, 4503599627370496, 52, by decide +kernel, by decide +kernel⟩, by decide⟩
theorem isI_of (n : Int) (h : n.natAbs < 9007199254740992) : IsI (floatOfInt .f64 n) n := ⟨by have := rep_write (rep_of_int n) h; simp only [floatOfInt, FloatKind.nearest, FloatKind.encode, FloatKind.decode, FloatKind.format]; exact this, h⟩
theorem isI_add {x y : Nat} {a b : Int} (hx : IsI x a) (hy : IsI y b) (h : (a + b).natAbs < 9007199254740992) : ∃ r, floatBits .add .f64 x y = some r ∧ IsI r (a + b) := by
  obtain ⟨f, e, hf⟩ := rep_sum hx.1 hy.1
  refine ⟨double.write f, ?_, rep_write hf h, h⟩
  show (((double.read x).sum (double.read y)).map double.write) = _
  rw [show (double.read x).sum (double.read y) = some f from e]; rfl
theorem isI_sub {x y : Nat} {a b : Int} (hx : IsI x a) (hy : IsI y b) (h : (a - b).natAbs < 9007199254740992) : ∃ r, floatBits .sub .f64 x y = some r ∧ IsI r (a - b) := by
  obtain ⟨f, e, hf⟩ := rep_sum hx.1 (rep_opp hy.1)
  have hf' : Rep f (a - b) := by rw [Int.sub_eq_add_neg]; exact hf
  refine ⟨double.write f, ?_, rep_write hf' h, h⟩
  show (((double.read x).sum (double.read y).opposite).map double.write) = _
  rw [show (double.read x).sum (double.read y).opposite = some f from e]; rfl
theorem isI_mul {x y : Nat} {a b : Int} (hx : IsI x a) (hy : IsI y b) (h : (a * b).natAbs < 9007199254740992) : ∃ r, floatBits .mul .f64 x y = some r ∧ IsI r (a * b) := by
  obtain ⟨f, e, hf⟩ := rep_prod hx.1 hy.1
  refine ⟨double.write f, ?_, rep_write hf h, h⟩
  show (((double.read x).product (double.read y)).map double.write) = _
  rw [show (double.read x).product (double.read y) = some f from e]; rfl
theorem isI_neg {x : Nat} {a : Int} (hx : IsI x a) : IsI (Op.negFloat .f64 x) (-a) := by
  refine ⟨?_, by rw [Int.natAbs_neg]; exact hx.2⟩
  have e : FloatKind.f64.decode (Op.negFloat .f64 x) = (FloatKind.f64.decode x).opposite := by
    show double.read (x ^^^ 2 ^ 63) = (double.read x).opposite
    have h1 : (x ^^^ 2 ^ 63) % 9223372036854775808 = x % 9223372036854775808 := by
      rw [show (9223372036854775808 : Nat) = 2 ^ 63 from rfl, Nat.xor_mod_two_pow]; simp
    have h2 : (x ^^^ 2 ^ 63) / 9223372036854775808 % 2 = 1 - x / 9223372036854775808 % 2 := by
      rw [show (9223372036854775808 : Nat) = 2 ^ 63 from rfl, Nat.xor_div_two_pow, Nat.div_self (Nat.two_pow_pos _)]
      generalize x / 2 ^ 63 = y
      rw [show (2 : Nat) = 2 ^ 1 from rfl, Nat.xor_mod_two_pow]
      have : y % 2 ^ 1 = 0 ∨ y % 2 ^ 1 = 1 := by omega
      rcases this with h | h <;> rw [h] <;> rfl
    unfold Format.read
    simp only [two63, h1, h2]
    have h3 : (1 - x / 9223372036854775808 % 2 == 1) = !(x / 9223372036854775808 % 2 == 1) := by
      have : x / 9223372036854775808 % 2 = 0 ∨ x / 9223372036854775808 % 2 = 1 := by omega
      rcases this with h | h <;> rw [h] <;> rfl
    rw [h3]
    repeat' split
    all_goals rfl
  rw [e]; exact rep_opp hx.1
theorem isI_toInt {x : Nat} {a : Int} (hx : IsI x a) : floatToIntVal .f64 x .i64 = some a := by
  unfold floatToIntVal
  rw [rep_toInt hx.1]
  have := hx.2
  have h1 : IntKind.i64.min = -9223372036854775808 := by decide
  have h2 : IntKind.i64.max = 9223372036854775807 := by decide
  simp only [h1, h2]
  rw [if_pos ⟨by omega, by omega⟩]
/-- two complex numbers whose parts are whole are added -/
theorem isI_csum {x y z u : Nat} {a b c d : Int} (hx : IsI x a) (hy : IsI y b) (hz : IsI z c) (hu : IsI u d) (h1 : (a + c).natAbs < 9007199254740992) (h2 : (b + d).natAbs < 9007199254740992) :
    ∃ r s, cSumBits .add .f64 x y z u = some (r, s) ∧ IsI r (a + c) ∧ IsI s (b + d) := by
  obtain ⟨r, e1, i1⟩ := isI_add hx hz h1
  obtain ⟨s, e2, i2⟩ := isI_add hy hu h2
  exact ⟨r, s, by unfold cSumBits; rw [e1, e2]; rfl, i1, i2⟩
/-- a number is turned by a quarter -/
theorem isI_turn {x y : Nat} {a b : Int} (hx : IsI x a) (hy : IsI y b) : ∃ r s, cMulBits 0 4607182418800017408 x y = some (r, s) ∧ IsI r (-b) ∧ IsI s a := by
  have ha := hx.2
  have hb := hy.2
  obtain ⟨ac, e1, i1⟩ := isI_mul isI_zero hx (by rw [Int.zero_mul]; decide)
  obtain ⟨bd, e2, i2⟩ := isI_mul isI_one hy (by rw [Int.one_mul]; exact hb)
  obtain ⟨re, e3, i3⟩ := isI_sub i1 i2 (by rw [Int.zero_mul, Int.one_mul]; omega)
  obtain ⟨ad, e4, i4⟩ := isI_mul isI_zero hy (by rw [Int.zero_mul]; decide)
  obtain ⟨bc, e5, i5⟩ := isI_mul isI_one hx (by rw [Int.one_mul]; exact ha)
  obtain ⟨im, e6, i6⟩ := isI_add i4 i5 (by rw [Int.zero_mul, Int.one_mul]; omega)
  refine ⟨re, im, by unfold cMulBits; rw [e1, e2]; simp [e3, e4, e5, e6], ?_, ?_⟩
  · simpa using i3
  · simpa using i6
end Go.Proofs.Ytnelcbbjnpaodaa
