/- FLOATS THAT ARE WHOLE NUMBERS DIVIDED BY A POWER OF TWO: a whole number divided by four, and cut off; plain facts, over no program. -/
import Derived.Test.YtnelcbbjnpaodaaFlo0
import Derived.Laws.FloatArith
set_option maxRecDepth 100000
set_option linter.unusedVariables false
set_option linter.unusedSimpArgs false
namespace Go.Proofs.Ytnelcbbjnpaodaa
open Go Ieee
/-- a datum is n parts of 2^j -/
def RepQ (j : Nat) (d : Datum) (n : Int) : Prop := ∃ s m, ∃ k : Nat, j ≤ k ∧ d = .number s m (-(k : Int)) ∧ signed s m 0 = n * ((2 ^ (k - j) : Nat) : Int)
theorem repq_abs {s : Bool} {m p : Nat} {n : Int} (e : signed s m 0 = n * ((p : Nat) : Int)) : m = n.natAbs * p := by
  have := congrArg Int.natAbs e
  rw [signed_abs, Int.natAbs_mul, Int.natAbs_natCast] at this
  exact this
theorem repq_toInt {j : Nat} {d : Datum} {n : Int} (h : RepQ j d n) : d.toInt .zero = some (Int.tdiv n ((2 ^ j : Nat) : Int)) := by
  obtain ⟨s, m, k, hk, rfl, e⟩ := h
  have hm := repq_abs e
  have hneg : ((-(k : Int)).toNat) = 0 := by omega
  have hpos : ((- -(k : Int)).toNat) = k := by omega
  simp only [Datum.toInt, Datum.integral, hneg, hpos, Nat.shiftLeft_zero, Toward.cut, Bool.toNat_false, Nat.add_zero]
  have hgap : m / (1 <<< min k (m.log2 + 2)) = n.natAbs / 2 ^ j := by
    rw [Nat.shiftLeft_eq, Nat.one_mul]
    have h1 : m / 2 ^ min k (m.log2 + 2) = m / 2 ^ k := by
      by_cases hl : k ≤ m.log2 + 2
      · rw [Nat.min_eq_left hl]
      · have hlt : m < 2 ^ (m.log2 + 1) := Nat.lt_log2_self
        have h2 : 2 ^ (m.log2 + 1) ≤ 2 ^ (m.log2 + 2) := Nat.pow_le_pow_right (by decide) (by omega)
        have h3 : 2 ^ (m.log2 + 1) ≤ 2 ^ k := Nat.pow_le_pow_right (by decide) (by omega)
        rw [Nat.min_eq_right (by omega), Nat.div_eq_of_lt (Nat.lt_of_lt_of_le hlt h2), Nat.div_eq_of_lt (Nat.lt_of_lt_of_le hlt h3)]
    rw [h1, hm]
    have hp : 2 ^ k = 2 ^ j * 2 ^ (k - j) := by rw [← Nat.pow_add]; congr 1; omega
    rw [hp, Nat.mul_div_mul_right _ _ (Nat.two_pow_pos _)]
  rw [hgap]
  generalize hP : 2 ^ j = P
  have hP0 : 0 < P := by rw [← hP]; exact Nat.two_pow_pos j
  congr 1
  by_cases h0 : n = 0
  · subst h0
    unfold signed
    cases s <;> simp
  · have hs : s = decide (n < 0) := by
      have hq : 0 < ((2 ^ (k - j) : Nat) : Int) := by have := Nat.two_pow_pos (k - j); omega
      generalize ((2 ^ (k - j) : Nat) : Int) = q at *
      unfold signed at e
      cases s
      · simp only [Bool.false_eq_true, if_false, Nat.shiftLeft_zero] at e
        have : ¬ n < 0 := fun hn => by
          have := Int.mul_neg_of_neg_of_pos hn hq
          omega
        simp [this]
      · simp only [if_true, Nat.shiftLeft_zero] at e
        have : n < 0 := by
          apply Int.not_le.1
          intro hn
          have h1 : 0 < n := by omega
          have := Int.mul_pos h1 hq
          omega
        simp [this]
    subst hs
    unfold signed
    by_cases hn : n < 0
    · simp only [hn, decide_true, if_true, Nat.shiftLeft_zero]
      obtain ⟨a, rfl⟩ : ∃ a : Nat, n = -(a : Int) := ⟨n.natAbs, by omega⟩
      rw [Int.natAbs_neg, Int.natAbs_natCast, Int.neg_tdiv, Int.ofNat_tdiv]
    · simp only [hn, decide_false, Bool.false_eq_true, if_false, Nat.shiftLeft_zero]
      obtain ⟨a, rfl⟩ : ∃ a : Nat, n = (a : Int) := ⟨n.natAbs, by omega⟩
      rw [Int.natAbs_natCast, Int.ofNat_tdiv]
theorem rungq_lt (L Q j : Nat) (hL : L ≤ 52) (hQ : Q < 9007199254740992) (hj : j ≤ 100) : (L + 1022 - j) * 4503599627370496 + Q < 9223372036854775808 := by omega
theorem rungq_le (L Q j : Nat) (hL : L ≤ 52) (hQ : Q < 9007199254740992) (hj : j ≤ 100) : (L + 1022 - j) * 4503599627370496 + Q < 9218868437227405312 := by omega
theorem rungq_ge (L Q j : Nat) (hQ : 4503599627370496 ≤ Q) : ¬ (L + 1022 - j) * 4503599627370496 + Q < 4503599627370496 := by omega
theorem rungq_mod (L Q j : Nat) (h1 : 4503599627370496 ≤ Q) (hQ : Q < 9007199254740992) : ((L + 1022 - j) * 4503599627370496 + Q) % 4503599627370496 = Q - 4503599627370496 := by omega
theorem rungq_div (L Q j : Nat) (h1 : 4503599627370496 ≤ Q) (hQ : Q < 9007199254740992) (hj : j ≤ 100) : ((L + 1022 - j) * 4503599627370496 + Q) / 4503599627370496 = L + 1023 - j := by omega
theorem repq_write {j : Nat} (hj : j ≤ 100) {d : Datum} {n : Int} (h : RepQ j d n) (hn : n.natAbs < 9007199254740992) : RepQ j (double.read (double.write d)) n := by
  obtain ⟨s, m, k, hk, rfl, e⟩ := h
  have hm := repq_abs e
  obtain ⟨k2, rfl⟩ : ∃ k2, k = k2 + j := ⟨k - j, by omega⟩
  rw [Nat.add_sub_cancel] at e hm
  generalize hNN : n.natAbs = N at *
  by_cases hz : N = 0
  · have hm0 : m = 0 := by rw [hm, hz, Nat.zero_mul]
    have hn0 : n = 0 := by omega
    subst hm0; subst hn0
    simp only [Format.write, Format.nearest, if_true]
    obtain ⟨r1, r2⟩ := read_word s 0 (by decide)
    unfold Format.read
    simp only [r1, r2, bin52, least1074]
    exact ⟨s, 0, 1074, by omega, rfl, by unfold signed; cases s <;> simp⟩
  · have hm0 : m ≠ 0 := by rw [hm]; exact Nat.mul_ne_zero hz (by have := Nat.two_pow_pos k2; omega)
    have hlog : m.log2 = N.log2 + k2 := by
      rw [Nat.log2_eq_iff hm0, hm]
      have h1 := Nat.log2_self_le hz
      have h2 : N < 2 ^ (N.log2 + 1) := Nat.lt_log2_self
      rw [show N.log2 + k2 + 1 = N.log2 + 1 + k2 by omega, Nat.pow_add, Nat.pow_add]
      exact ⟨Nat.mul_le_mul_right _ h1, Nat.mul_lt_mul_of_pos_right h2 (Nat.two_pow_pos k2)⟩
    have hL : N.log2 ≤ 52 := by
      have := (Nat.log2_lt hz).2 (show N < 2 ^ 53 from hn); omega
    have h2L : 2 ^ N.log2 ≤ N := Nat.log2_self_le hz
    have h3L : N < 2 ^ (N.log2 + 1) := Nat.lt_log2_self
    generalize hLL : N.log2 = L at *
    have hlast : max (-((k2 + j : Nat) : Int) + (m.log2 : Int) - (double.fractionBits : Int)) double.leastPlace = (L : Int) - j - 52 := by
      rw [hlog, least1074]; show max (-((k2 + j : Nat) : Int) + ((L + k2 : Nat) : Int) - 52) (-1074) = _; omega
    have hkept : Toward.even.cut s (m <<< (-((k2 + j : Nat) : Int) - ((L : Int) - j - 52)).toNat) (((L : Int) - j - 52) - -((k2 + j : Nat) : Int)).toNat = N * 2 ^ (52 - L) := by
      rw [Nat.shiftLeft_eq, hm]
      by_cases hk : k2 + L ≤ 52
      · rw [show (((L : Int) - j - 52) - -((k2 + j : Nat) : Int)).toNat = 0 by omega, show (-((k2 + j : Nat) : Int) - ((L : Int) - j - 52)).toNat = 52 - L - k2 by omega, Nat.mul_assoc, ← Nat.pow_add, cut_exact s N _ 0 hz (by omega)]
        congr 2; omega
      · rw [show (((L : Int) - j - 52) - -((k2 + j : Nat) : Int)).toNat = k2 + L - 52 by omega, show (-((k2 + j : Nat) : Int) - ((L : Int) - j - 52)).toNat = 0 by omega, Nat.pow_zero, Nat.mul_one, cut_exact s N k2 _ hz (by omega)]
        congr 2; omega
    have hlo : 4503599627370496 ≤ N * 2 ^ (52 - L) := by
      have : 2 ^ L * 2 ^ (52 - L) ≤ N * 2 ^ (52 - L) := Nat.mul_le_mul_right _ h2L
      rw [← Nat.pow_add, show L + (52 - L) = 52 by omega] at this
      exact this
    have hhi : N * 2 ^ (52 - L) < 9007199254740992 := by
      have : N * 2 ^ (52 - L) < 2 ^ (L + 1) * 2 ^ (52 - L) := Nat.mul_lt_mul_of_pos_right h3L (Nat.two_pow_pos _)
      rw [← Nat.pow_add, show L + 1 + (52 - L) = 53 by omega] at this
      exact this
    simp only [Format.write, Format.nearest, hm0, if_false, hlast, hkept]
    simp only [least1074, bin52, inf2047]
    have hpl : ((L : Int) - j - 52 - -1074).toNat = L + 1022 - j := by omega
    rw [hpl]
    generalize hQ : N * 2 ^ (52 - L) = Q at *
    have hmin : min ((L + 1022 - j) * 4503599627370496 + Q) 9218868437227405312 = (L + 1022 - j) * 4503599627370496 + Q := Nat.min_eq_left (Nat.le_of_lt (rungq_le L Q j hL hhi hj))
    rw [hmin]
    obtain ⟨r1, r2⟩ := read_word s ((L + 1022 - j) * 4503599627370496 + Q) (rungq_lt L Q j hL hhi hj)
    unfold Format.read
    simp only [r1, r2, bin52, inf2047, least1074]
    rw [if_neg (rungq_ge L Q j hlo), if_pos (rungq_le L Q j hL hhi hj), rungq_mod L Q j hlo hhi, rungq_div L Q j hlo hhi hj]
    have t1 : 4503599627370496 + (Q - 4503599627370496) = Q := Nat.add_sub_cancel' hlo
    have t2 : (-1074 : Int) + ((L + 1023 - j - 1 : Nat) : Int) = -((52 - L + j : Nat) : Int) := by clear hkept hQ t1; omega
    rw [t1, t2]
    refine ⟨s, Q, 52 - L + j, by omega, rfl, ?_⟩
    rw [Nat.add_sub_cancel]
    have hs : signed s m 0 = signed s N 0 * ((2 ^ k2 : Nat) : Int) := by rw [hm]; unfold signed; cases s <;> simp [Int.neg_mul]
    have hp : ((2 ^ k2 : Nat) : Int) ≠ 0 := by have := Nat.two_pow_pos k2; omega
    have hsn : signed s N 0 = n := Int.eq_of_mul_eq_mul_right hp (hs ▸ e)
    rw [← hsn, ← hQ]; unfold signed; cases s <;> simp [Int.neg_mul]
/-- what is read has at most 53 digits -/
theorem read_mag (x : Nat) {s : Bool} {m : Nat} {e : Int} (h : double.read x = .number s m e) : m < 9007199254740992 := by
  unfold Format.read at h
  simp only [bin52, inf2047, least1074] at h
  split at h
  · simp only [Datum.number.injEq] at h; omega
  · split at h
    · simp only [Datum.number.injEq] at h; omega
    · split at h <;> cases h
theorem four_word : double.read 4616189618054758400 = .number false 4503599627370496 (-50) := by decide +kernel
/-- a whole number divided by four -/
theorem isI_quo4 {x : Nat} {a : Int} (hx : IsI x a) : ∃ r, floatBits .quo .f64 x 4616189618054758400 = some r ∧ floatToIntVal .f64 r .i64 = some (Int.tdiv a 4) := by
  obtain ⟨⟨s, m, k, hd, e⟩, hb⟩ := hx
  have hm53 : m < 9007199254740992 := read_mag x hd
  have hlog : m.log2 ≤ 52 := by
    by_cases h0 : m = 0
    · subst h0; decide
    · have := (Nat.log2_lt h0).2 (show m < 2 ^ 53 from hm53); omega
  have hq : ((double.read x).quotient (double.fractionBits + 2) (double.read 4616189618054758400)) = some (.number s (m * 2 ^ (55 - m.log2)) (-((k + (105 - m.log2) - 48 : Nat) : Int))) := by
    rw [show double.read x = .number s m (-(k : Int)) from hd, four_word]
    unfold Datum.quotient
    have hlg : Nat.log2 4503599627370496 = 52 := by decide
    have hfb : double.fractionBits = 52 := rfl
    simp only [hlg, hfb]
    rw [if_neg (by decide)]
    have hmore : 52 + 2 + 52 - m.log2 = (54 - m.log2) + 52 := by omega
    rw [hmore]
    have h1 : m <<< (54 - m.log2 + 52) = m * 2 ^ (54 - m.log2) * 4503599627370496 := by
      rw [Nat.shiftLeft_eq, Nat.pow_add, Nat.mul_assoc]
    rw [h1, Nat.mul_div_cancel _ (by decide), Nat.mul_mod_left]
    congr 2
    · cases s <;> rfl
    · rw [show 55 - m.log2 = (54 - m.log2) + 1 by omega, Nat.pow_succ]
      simp only [bne_self_eq_false, Bool.toNat_false, Nat.add_zero]
      rw [Nat.mul_comm 2, Nat.mul_assoc]
    · omega
  have hR : RepQ 2 (.number s (m * 2 ^ (55 - m.log2)) (-((k + (105 - m.log2) - 48 : Nat) : Int))) a := by
    refine ⟨s, _, k + (105 - m.log2) - 48, by omega, rfl, ?_⟩
    have : signed s (m * 2 ^ (55 - m.log2)) 0 = signed s m 0 * ((2 ^ (55 - m.log2) : Nat) : Int) := by unfold signed; cases s <;> simp [Int.neg_mul]
    rw [this, e, Int.mul_assoc, ← Int.natCast_mul, ← Nat.pow_add]
    congr 3; omega
  refine ⟨_, by show (((double.read x).quotient (double.fractionBits + 2) (double.read 4616189618054758400)).map double.write) = _; rw [hq]; rfl, ?_⟩
  have hW := repq_toInt (repq_write (by decide) hR hb)
  unfold floatToIntVal
  rw [show FloatKind.f64.decode _ = double.read _ from rfl, hW]
  have h1 : IntKind.i64.min = -9223372036854775808 := by decide
  have h2 : IntKind.i64.max = 9223372036854775807 := by decide
  simp only [h1, h2]
  have h4 : ((2 ^ 2 : Nat) : Int) = 4 := by decide
  rw [h4]
  have h5 : (Int.tdiv a 4).natAbs = a.natAbs / 4 := Int.natAbs_tdiv a 4
  rw [if_pos ⟨by omega, by omega⟩]
/-- two complex numbers whose parts are whole are multiplied -/
theorem isI_cmul {x y z u : Nat} {a b c d : Int} (hx : IsI x a) (hy : IsI y b) (hz : IsI z c) (hu : IsI u d) (h1 : (a * c).natAbs < 9007199254740992) (h2 : (b * d).natAbs < 9007199254740992) (h3 : (a * d).natAbs < 9007199254740992) (h4 : (b * c).natAbs < 9007199254740992)
    (h5 : (a * c - b * d).natAbs < 9007199254740992) (h6 : (a * d + b * c).natAbs < 9007199254740992) :
    ∃ r s, cMulBits x y z u = some (r, s) ∧ IsI r (a * c - b * d) ∧ IsI s (a * d + b * c) := by
  obtain ⟨ac, e1, i1⟩ := isI_mul hx hz h1
  obtain ⟨bd, e2, i2⟩ := isI_mul hy hu h2
  obtain ⟨re, e3, i3⟩ := isI_sub i1 i2 h5
  obtain ⟨ad, e4, i4⟩ := isI_mul hx hu h3
  obtain ⟨bc, e5, i5⟩ := isI_mul hy hz h4
  obtain ⟨im, e6, i6⟩ := isI_add i4 i5 h6
  exact ⟨re, im, by unfold cMulBits; rw [e1, e2]; simp [e3, e4, e5, e6], i3, i6⟩
end Go.Proofs.Ytnelcbbjnpaodaa
