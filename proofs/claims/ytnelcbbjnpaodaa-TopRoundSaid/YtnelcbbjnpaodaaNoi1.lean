/-
  Noise: how many bits are set; the state behind a state, and the one ahead.
-/
import Derived.Test.YtnelcbbjnpaodaaNoi0
import Derived.Test.YtnelcbbjnpaodaaA1
import Derived.Lib.Tables
import Derived.Lib.BitFns
import Derived.Lib.Small
import Derived.Lib.Walk
import Derived.RegionTactic
namespace Go.Proofs.Ytnelcbbjnpaodaa
open Go.RowKit
set_option linter.unusedVariables false
set_option linter.unusedSimpArgs false
set_option maxRecDepth 100000
theorem fold_tab (l : List UInt8) (h : l = Lib.pop8tab.data.toList) : (⟨l.toArray⟩ : ByteArray) = Lib.pop8tab := by subst h; rfl
theorem bits_and_nat (a b : Nat) (ha : a < 4294967296) (hb : b < 4294967296) : bits .and .u32 (a : Int) (b : Int) = ((a &&& b : Nat) : Int) := by
  have hx : a &&& b < 2 ^ 32 := Nat.lt_of_le_of_lt Nat.and_le_left ha
  have h1 : (BitVec.ofInt 32 (a : Int)).toNat = a := by
    rw [BitVec.ofInt_natCast, BitVec.toNat_ofNat]; exact Nat.mod_eq_of_lt (by omega)
  have h2 : (BitVec.ofInt 32 (b : Int)).toNat = b := by
    rw [BitVec.ofInt_natCast, BitVec.toNat_ofNat]; exact Nat.mod_eq_of_lt (by omega)
  show IntKind.u32.wrap ((BitVec.ofInt 32 (a : Int) &&& BitVec.ofInt 32 (b : Int)).toNat : Int) = _
  rw [BitVec.toNat_and, h1, h2]
  exact IntWalk.u32_in _ (by omega)
theorem bits_xor_nat (a b : Nat) (ha : a < 4294967296) (hb : b < 4294967296) : bits .xor .u32 (a : Int) (b : Int) = ((a ^^^ b : Nat) : Int) := by
  have hx : a ^^^ b < 2 ^ 32 := Nat.xor_lt_two_pow (by omega) (by omega)
  have h1 : (BitVec.ofInt 32 (a : Int)).toNat = a := by
    rw [BitVec.ofInt_natCast, BitVec.toNat_ofNat]; exact Nat.mod_eq_of_lt (by omega)
  have h2 : (BitVec.ofInt 32 (b : Int)).toNat = b := by
    rw [BitVec.ofInt_natCast, BitVec.toNat_ofNat]; exact Nat.mod_eq_of_lt (by omega)
  show IntKind.u32.wrap ((BitVec.ofInt 32 (a : Int) ^^^ BitVec.ofInt 32 (b : Int)).toNat : Int) = _
  rw [BitVec.toNat_xor, h1, h2]
  exact IntWalk.u32_in _ (by omega)
theorem and_255 (a : Nat) (ha : a < 4294967296) : bits .and .u32 (a : Int) 255 = ((a % 256 : Nat) : Int) := by
  have := bits_and_nat a 255 ha (by decide)
  rw [show (255 : Nat) = 2 ^ 8 - 1 from rfl, Nat.and_two_pow_sub_one_eq_mod] at this
  exact this
/-- How many bits are set. -/
def popN (n : Nat) : Nat := Lib.onesCount n
def cnt (x : Nat) : Nat := popN (x / 16777216) + popN (x / 65536 % 256) + popN (x / 256 % 256) + popN (x % 256)
theorem pop_of (n : Nat) (h : n < 256) : ∃ p : Nat, (∀ h' : n < Lib.pop8tab.size, (Lib.pop8tab[n]'h').toNat = p) ∧ p ≤ 8 ∧ popN n = p := ⟨popN n, fun h' => by
  have e := Lib.pop8_eq ⟨n, h⟩
  simp only [Lib.pop8, Int.toNat_natCast, ByteArray.getElem?_lt' _ _ h', Option.getD_some] at e
  exact Int.ofNat.inj e, Lib.onesCount_le8 ⟨n, h⟩, rfl⟩
theorem ones_any (x : Nat) (hx : x < 4294967296) (w : World) :
    Calls Try.prog 53 #[.int .u32 x] w fun e w' => e = .returned (.int .i64 (cnt x)) ∧ Below w.heap.size w w' := by
  have q3 : (x : Int) / 16777216 = ((x / 16777216 : Nat) : Int) := rfl
  have q2 : bits .and .u32 ((x : Int) / 65536) 255 = ((x / 65536 % 256 : Nat) : Int) := and_255 (x / 65536) (by omega)
  have q1 : bits .and .u32 ((x : Int) / 256) 255 = ((x / 256 % 256 : Nat) : Int) := and_255 (x / 256) (by omega)
  have q0 : bits .and .u32 (x : Int) 255 = ((x % 256 : Nat) : Int) := and_255 x hx
  obtain ⟨p3, e3, b3, c3⟩ := pop_of (x / 16777216) (by omega)
  obtain ⟨p2, e2, b2, c2⟩ := pop_of (x / 65536 % 256) (by omega)
  obtain ⟨p1, e1, b1, c1⟩ := pop_of (x / 256 % 256) (by omega)
  obtain ⟨p0, e0, b0, c0⟩ := pop_of (x % 256) (by omega)
  have hc : cnt x = p3 + p2 + p1 + p0 := by unfold cnt; rw [c3, c2, c1, c0]
  rw [hc]
  clear hc c3 c2 c1 c0
  have l3 : x / 16777216 ≤ 255 := by omega
  have l2 : x / 65536 % 256 ≤ 255 := by omega
  have l1 : x / 256 % 256 ≤ 255 := by omega
  have l0 : x % 256 ≤ 255 := by omega
  generalize x / 16777216 = d3 at *
  generalize x / 65536 % 256 = d2 at *
  generalize x / 256 % 256 = d1 at *
  generalize x % 256 = d0 at *
  go_enter Try.func53, Try.ntmps53
  go_wp2
  rw [fold_tab _ (by kernel_rfl)]
  have hs := Lib.pop8tab_size
  go_region
  go_wp2
  go_ret
  exact ⟨by go_num, (Below.refl _ _).drew⟩
/-- Of some bits an odd number is set. -/
theorem and_pow (s i : Nat) : s &&& 2 ^ i = 2 ^ i * (s / 2 ^ i % 2) := by
  apply Nat.eq_of_testBit_eq
  intro j
  have e := Nat.testBit_two_pow_mul_add (i := i) (b := 0) (s / 2 ^ i % 2) (Nat.two_pow_pos i) j
  rw [Nat.add_zero] at e
  rw [e, Nat.testBit_and, Nat.testBit_two_pow]
  by_cases h : j < i
  · rw [if_pos h, decide_eq_false (by omega), Bool.and_false]; simp
  · rw [if_neg h]
    by_cases hk : j = i
    · subst hk
      rw [Nat.sub_self, decide_eq_true rfl, Bool.and_true, tb, tb, Nat.pow_zero, Nat.div_one, Nat.mod_mod]
    · rw [decide_eq_false (by omega), Bool.and_false, lowBit _ _ (Nat.mod_lt _ (by omega)) (by omega)]
theorem cnt_taps (s : Nat) : cnt (s &&& 137219) % 2 = nxP s := by
  have e : s &&& 137219 = ((((s &&& 2 ^ 0) ||| (s &&& 2 ^ 1)) ||| (s &&& 2 ^ 11)) ||| (s &&& 2 ^ 12)) ||| (s &&& 2 ^ 17) := by
    rw [← Nat.and_or_distrib_left, ← Nat.and_or_distrib_left, ← Nat.and_or_distrib_left, ← Nat.and_or_distrib_left]; rfl
  rw [e]
  simp only [and_pow]
  unfold nxP
  rcases Nat.mod_two_eq_zero_or_one (s / 2 ^ 0) with h1 | h1 <;> rcases Nat.mod_two_eq_zero_or_one (s / 2 ^ 1) with h2 | h2 <;> rcases Nat.mod_two_eq_zero_or_one (s / 2 ^ 11) with h3 | h3 <;> rcases Nat.mod_two_eq_zero_or_one (s / 2 ^ 12) with h4 | h4 <;> rcases Nat.mod_two_eq_zero_or_one (s / 2 ^ 17) with h5 | h5 <;> rw [h1, h2, h3, h4, h5] <;> decide +kernel
theorem cnt_ahead (s : Nat) : cnt (s &&& 199681) % 2 = bkP s := by
  have e : s &&& 199681 = ((((s &&& 2 ^ 0) ||| (s &&& 2 ^ 10)) ||| (s &&& 2 ^ 11)) ||| (s &&& 2 ^ 16)) ||| (s &&& 2 ^ 17) := by
    rw [← Nat.and_or_distrib_left, ← Nat.and_or_distrib_left, ← Nat.and_or_distrib_left, ← Nat.and_or_distrib_left]; rfl
  rw [e]
  simp only [and_pow]
  unfold bkP
  rcases Nat.mod_two_eq_zero_or_one (s / 2 ^ 0) with h1 | h1 <;> rcases Nat.mod_two_eq_zero_or_one (s / 2 ^ 10) with h2 | h2 <;> rcases Nat.mod_two_eq_zero_or_one (s / 2 ^ 11) with h3 | h3 <;> rcases Nat.mod_two_eq_zero_or_one (s / 2 ^ 16) with h4 | h4 <;> rcases Nat.mod_two_eq_zero_or_one (s / 2 ^ 17) with h5 | h5 <;> rw [h1, h2, h3, h4, h5] <;> decide +kernel
theorem popN_le (n : Nat) (h : n < 256) : popN n ≤ 8 := Lib.onesCount_le8 ⟨n, h⟩
theorem cnt_le (x : Nat) (hx : x < 4294967296) : cnt x ≤ 32 := by
  have a := popN_le (x / 16777216) (by omega)
  have b := popN_le (x / 65536 % 256) (by omega)
  have c := popN_le (x / 256 % 256) (by omega)
  have d := popN_le (x % 256) (by omega)
  unfold cnt; omega
theorem odd_any (s of : Nat) (hs : s < 4294967296) (ho : of < 4294967296) (w : World) :
    Calls Try.prog 52 #[.int .u32 s, .int .u32 of] w fun e w' => e = .returned (.int .u32 (cnt (s &&& of) % 2 : Nat)) ∧ Below w.heap.size w w' := by
  have hx : s &&& of < 4294967296 := Nat.lt_of_le_of_lt Nat.and_le_left hs
  have ha := bits_and_nat s of hs ho
  have hc := cnt_le (s &&& of) hx
  generalize s &&& of = x at *
  have hr : cnt x % 2 < 2 := Nat.mod_lt _ (by omega)
  have e1 : ((cnt x : Nat) : Int) % 2 = ((cnt x % 2 : Nat) : Int) := rfl
  generalize cnt x % 2 = r at *
  go_enter Try.func52, Try.ntmps52
  go_wp2_with fail
  refine (ones_any x hx _).mono ?_
  rintro e w1 ⟨rfl, b1⟩
  generalize cnt x = c at *
  go_wp2_with fail
  go_ret
  exact ⟨by go_num, b1⟩
theorem nxP_mod (s : Nat) : nxP s = nxP (s % 2 ^ 18) := by unfold nxP; omega
theorem bkP_mod (s : Nat) : bkP s = bkP (s % 2 ^ 18) := by unfold bkP; omega
theorem next_any (s : Nat) (hs : s < 4294967296) (w : World) :
    Calls Try.prog 48 #[.int .u32 s] w fun e w' => e = .returned (.int .u32 (nx (s % 2 ^ 18) : Nat)) ∧ Below w.heap.size w w' := by
  have hp : nxP s < 2 := Nat.mod_lt _ (by omega)
  have e : nx (s % 2 ^ 18) = 131072 * nxP s + s % 262144 / 2 := by unfold nx; rw [← nxP_mod]
  have hc := cnt_taps s
  rw [e]
  generalize nxP s = p at *
  clear e
  go_enter Try.func48, Try.ntmps48
  go_wp2_with fail
  refine (odd_any s 137219 hs (by decide) _).mono ?_
  rw [hc]
  rintro e w1 ⟨rfl, b1⟩
  clear hc
  go_wp2_with fail
  go_ret
  exact ⟨by go_num, b1⟩
theorem back_any (s : Nat) (hs : s < 4294967296) (w : World) :
    Calls Try.prog 49 #[.int .u32 s] w fun e w' => e = .returned (.int .u32 (bk (s % 2 ^ 18) : Nat)) ∧ Below w.heap.size w w' := by
  have hp : bkP s < 2 := Nat.mod_lt _ (by omega)
  have e : bk (s % 2 ^ 18) = 2 * (s % 131072) + bkP s := by unfold bk; rw [← bkP_mod]; omega
  have hc := cnt_ahead s
  rw [e]
  generalize bkP s = p at *
  clear e
  go_enter Try.func49, Try.ntmps49
  go_wp2_with fail
  refine (odd_any s 199681 hs (by decide) _).mono ?_
  rw [hc]
  rintro e w1 ⟨rfl, b1⟩
  clear hc
  go_wp2_with fail
  go_ret
  exact ⟨by go_num, b1⟩
end Go.Proofs.Ytnelcbbjnpaodaa
