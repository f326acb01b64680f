/-
  Texts of these proofs, one behind the other: Noi1, G5.
-/
import Derived.Test.YtaamfcbpelbboaaDoorKM02
import Derived.Lib.Tables
import Derived.Lib.BitFns
import Derived.Lib.Small
import Derived.Lib.Walk
import Derived.RegionTactic
import Derived.WalkKit
import Derived.ProofKit
import Derived.OpenShut
import Derived.Deep.Grids
namespace Go.Proofs.YtaamfcbpelbboaaDoor
open Go.RowKit
set_option linter.unusedVariables false
set_option linter.unusedSimpArgs false
set_option maxRecDepth 100000
theorem fold_tab (l : List UInt8) (h : l = Lib.pop8tab.data.toList) : (⟨l.toArray⟩ : ByteArray) = Lib.pop8tab := by subst h; rfl
theorem bits_and_nat (a b : Nat) (ha : a < 4294967296) (hb : b < 4294967296) : bits .and .u32 (a : Int) (b : Int) = ((a &&& b : Nat) : Int) := by
  have hx : a &&& b < 2 ^ 32 := Nat.lt_of_le_of_lt Nat.and_le_left ha
  have h1 : (BitVec.ofInt 32 (a : Int)).toNat = a := by
    rw [BitVec.ofInt_natCast, BitVec.toNat_ofNat]; exact Nat.mod_eq_of_lt (by omega)
  have h2 : (BitVec.ofInt 32 (b : Int)).toNat = b := by
    rw [BitVec.ofInt_natCast, BitVec.toNat_ofNat]; exact Nat.mod_eq_of_lt (by omega)
  show IntKind.u32.wrap ((BitVec.ofInt 32 (a : Int) &&& BitVec.ofInt 32 (b : Int)).toNat : Int) = _
  rw [BitVec.toNat_and, h1, h2]
  exact IntWalk.u32_in _ (by omega)
theorem bits_xor_nat (a b : Nat) (ha : a < 4294967296) (hb : b < 4294967296) : bits .xor .u32 (a : Int) (b : Int) = ((a ^^^ b : Nat) : Int) := by
  have hx : a ^^^ b < 2 ^ 32 := Nat.xor_lt_two_pow (by omega) (by omega)
  have h1 : (BitVec.ofInt 32 (a : Int)).toNat = a := by
    rw [BitVec.ofInt_natCast, BitVec.toNat_ofNat]; exact Nat.mod_eq_of_lt (by omega)
  have h2 : (BitVec.ofInt 32 (b : Int)).toNat = b := by
    rw [BitVec.ofInt_natCast, BitVec.toNat_ofNat]; exact Nat.mod_eq_of_lt (by omega)
  show IntKind.u32.wrap ((BitVec.ofInt 32 (a : Int) ^^^ BitVec.ofInt 32 (b : Int)).toNat : Int) = _
  rw [BitVec.toNat_xor, h1, h2]
  exact IntWalk.u32_in _ (by omega)
theorem and_255 (a : Nat) (ha : a < 4294967296) : bits .and .u32 (a : Int) 255 = ((a % 256 : Nat) : Int) := by
  have := bits_and_nat a 255 ha (by decide)
  rw [show (255 : Nat) = 2 ^ 8 - 1 from rfl, Nat.and_two_pow_sub_one_eq_mod] at this
  exact this
/-- How many bits are set. -/
def popN (n : Nat) : Nat := Lib.onesCount n
def cnt (x : Nat) : Nat := popN (x / 16777216) + popN (x / 65536 % 256) + popN (x / 256 % 256) + popN (x % 256)
theorem pop_of (n : Nat) (h : n < 256) : ∃ p : Nat, (∀ h' : n < Lib.pop8tab.size, (Lib.pop8tab[n]'h').toNat = p) ∧ p ≤ 8 ∧ popN n = p := ⟨popN n, fun h' => by
  have e := Lib.pop8_eq ⟨n, h⟩
  simp only [Lib.pop8, Int.toNat_natCast, ByteArray.getElem?_lt' _ _ h', Option.getD_some] at e
  exact Int.ofNat.inj e, Lib.onesCount_le8 ⟨n, h⟩, rfl⟩
/-- Of some bits an odd number is set. -/
theorem and_pow (s i : Nat) : s &&& 2 ^ i = 2 ^ i * (s / 2 ^ i % 2) := by
  apply Nat.eq_of_testBit_eq
  intro j
  have e := Nat.testBit_two_pow_mul_add (i := i) (b := 0) (s / 2 ^ i % 2) (Nat.two_pow_pos i) j
  rw [Nat.add_zero] at e
  rw [e, Nat.testBit_and, Nat.testBit_two_pow]
  by_cases h : j < i
  · rw [if_pos h, decide_eq_false (by omega), Bool.and_false]; simp
  · rw [if_neg h]
    by_cases hk : j = i
    · subst hk
      rw [Nat.sub_self, decide_eq_true rfl, Bool.and_true, tb, tb, Nat.pow_zero, Nat.div_one, Nat.mod_mod]
    · rw [decide_eq_false (by omega), Bool.and_false, lowBit _ _ (Nat.mod_lt _ (by omega)) (by omega)]
theorem cnt_taps (s : Nat) : cnt (s &&& 137219) % 2 = nxP s := by
  have e : s &&& 137219 = ((((s &&& 2 ^ 0) ||| (s &&& 2 ^ 1)) ||| (s &&& 2 ^ 11)) ||| (s &&& 2 ^ 12)) ||| (s &&& 2 ^ 17) := by
    rw [← Nat.and_or_distrib_left, ← Nat.and_or_distrib_left, ← Nat.and_or_distrib_left, ← Nat.and_or_distrib_left]; rfl
  rw [e]
  simp only [and_pow]
  unfold nxP
  rcases Nat.mod_two_eq_zero_or_one (s / 2 ^ 0) with h1 | h1 <;> rcases Nat.mod_two_eq_zero_or_one (s / 2 ^ 1) with h2 | h2 <;> rcases Nat.mod_two_eq_zero_or_one (s / 2 ^ 11) with h3 | h3 <;> rcases Nat.mod_two_eq_zero_or_one (s / 2 ^ 12) with h4 | h4 <;> rcases Nat.mod_two_eq_zero_or_one (s / 2 ^ 17) with h5 | h5 <;> rw [h1, h2, h3, h4, h5] <;> decide +kernel
theorem cnt_ahead (s : Nat) : cnt (s &&& 199681) % 2 = bkP s := by
  have e : s &&& 199681 = ((((s &&& 2 ^ 0) ||| (s &&& 2 ^ 10)) ||| (s &&& 2 ^ 11)) ||| (s &&& 2 ^ 16)) ||| (s &&& 2 ^ 17) := by
    rw [← Nat.and_or_distrib_left, ← Nat.and_or_distrib_left, ← Nat.and_or_distrib_left, ← Nat.and_or_distrib_left]; rfl
  rw [e]
  simp only [and_pow]
  unfold bkP
  rcases Nat.mod_two_eq_zero_or_one (s / 2 ^ 0) with h1 | h1 <;> rcases Nat.mod_two_eq_zero_or_one (s / 2 ^ 10) with h2 | h2 <;> rcases Nat.mod_two_eq_zero_or_one (s / 2 ^ 11) with h3 | h3 <;> rcases Nat.mod_two_eq_zero_or_one (s / 2 ^ 16) with h4 | h4 <;> rcases Nat.mod_two_eq_zero_or_one (s / 2 ^ 17) with h5 | h5 <;> rw [h1, h2, h3, h4, h5] <;> decide +kernel
theorem popN_le (n : Nat) (h : n < 256) : popN n ≤ 8 := Lib.onesCount_le8 ⟨n, h⟩
theorem cnt_le (x : Nat) (hx : x < 4294967296) : cnt x ≤ 32 := by
  have a := popN_le (x / 16777216) (by omega)
  have b := popN_le (x / 65536 % 256) (by omega)
  have c := popN_le (x / 256 % 256) (by omega)
  have d := popN_le (x % 256) (by omega)
  unfold cnt; omega
theorem nxP_mod (s : Nat) : nxP s = nxP (s % 2 ^ 18) := by unfold nxP; omega
theorem bkP_mod (s : Nat) : bkP s = bkP (s % 2 ^ 18) := by unfold bkP; omega
end Go.Proofs.YtaamfcbpelbboaaDoor
namespace Go.Proofs.YtaamfcbpelbboaaDoor
open Go.ChangeShapes Go.WideShapes Go.ChangeAt Go.RowKit
theorem add_zero_block (o i : Nat) : (⟨o, 0, none⟩ : Addr).add i = ⟨o, i, none⟩ := by unfold Addr.add; split <;> simp_all
theorem block_of_add (a : Addr) (n : Nat) : (a.add n).block = a.block := by unfold Addr.add; split <;> rfl
theorem cell_lt {w : World} {a : Addr} {v : Value} (h : w.cell? a = some v) : a.block < w.heap.size := by
  rcases Nat.lt_or_ge a.block w.heap.size with hlt | hge
  · exact hlt
  · unfold World.cell? at h
    rw [Array.getElem?_eq_none hge] at h
    cases h
def IRow (w : World) (k : IntKind) (A : Option Addr) (n : Nat) (zs : Nat → Int) : Prop :=
  ∀ i, i < n → ∃ ad : Addr, A = some ad ∧ ad.block < w.heap.size ∧ w.cell? (ad.add i) = some (.int k (zs i)) ∧ (Lit.int k (zs i)).wf = true
def BRow (w : World) (A : Option Addr) (n : Nat) (zs : Nat → Bool) : Prop :=
  ∀ i, i < n → ∃ ad : Addr, A = some ad ∧ ad.block < w.heap.size ∧ w.cell? (ad.add i) = some (.bool (zs i))
theorem IRow.keep {w w' : World} {k : IntKind} {A : Option Addr} {n : Nat} {zs : Nat → Int} (h : IRow w k A n zs) (hb : Below w.heap.size w w') : IRow w' k A n zs := fun i hi => by
  obtain ⟨ad, e, hl, hc, hw⟩ := h i hi
  exact ⟨ad, e, Nat.lt_of_lt_of_le hl hb.size, (hb.cell (by rw [block_of_add]; exact hl)).trans hc, hw⟩
theorem BRow.keep {w w' : World} {A : Option Addr} {n : Nat} {zs : Nat → Bool} (h : BRow w A n zs) (hb : Below w.heap.size w w') : BRow w' A n zs := fun i hi => by
  obtain ⟨ad, e, hl, hc⟩ := h i hi
  exact ⟨ad, e, Nat.lt_of_lt_of_le hl hb.size, (hb.cell (by rw [block_of_add]; exact hl)).trans hc⟩
section
variable {H : Type} {enc : TypeId × Value → H} {P : Program} {w : World} {base : Nat} {r : Reach} {b0 : Nat} {t e : TypeId} {v : Value} {d : DataW H} {ps : List MemPlace}
theorem slice_ints {k : IntKind} (ht : P.underlying t = some (.slice e)) (he : P.underlying e = some (.int k)) (hc : P.cellsOf e = 1) (hval : Value.okWide P w r b0 t v) (hd : DataW.Trod enc P w base (fun _ => true) true t v d ps) :
    ∃ A n cap zs, v = .slice A n cap ∧ n ≤ cap ∧ cap ≤ maxLen ∧ IRow w k A n zs := by
  obtain ⟨a0, len, cap, rfl⟩ := okWide_slice ht hval
  obtain ⟨fuel, hf⟩ := hd
  rcases open_ints ht he hc hf with ⟨hcs, _⟩ | ⟨a, len', cap', zs, hcs, _, hl, hm, hz, _, hcell, hwz⟩
  · simp only [Value.cells, List.cons.injEq, Value.slice.injEq, and_true] at hcs
    obtain ⟨rfl, rfl, rfl⟩ := hcs
    exact ⟨none, 0, 0, fun _ => 0, rfl, Nat.le_refl _, by unfold maxLen; omega, fun i hi => absurd hi (by omega)⟩
  · simp only [Value.cells, List.cons.injEq, Value.slice.injEq, and_true] at hcs
    obtain ⟨rfl, rfl, rfl⟩ := hcs
    simp only [if_true] at hz
    refine ⟨some a, len, cap, fun i => zs.getD i 0, rfl, hl, hm, fun i hi => ⟨a, rfl, ?_, hcell i (by omega), ?_⟩⟩
    · have := cell_lt (hcell i (by omega)); rwa [block_of_add] at this
    · have hi' : i < zs.length := by omega
      exact hwz _ (by simp [List.getD, List.getElem?_eq_getElem hi'])
theorem slice_bools (ht : P.underlying t = some (.slice e)) (he : P.underlying e = some .bool) (hc : P.cellsOf e = 1) (hval : Value.okWide P w r b0 t v) (hd : DataW.Trod enc P w base (fun _ => true) true t v d ps) :
    ∃ A n cap zs, v = .slice A n cap ∧ n ≤ cap ∧ cap ≤ maxLen ∧ BRow w A n zs := by
  obtain ⟨a0, len, cap, rfl⟩ := okWide_slice ht hval
  obtain ⟨fuel, hf⟩ := hd
  rcases Go.Deep.open_bools ht he hc hf with ⟨hcs, _⟩ | ⟨a, len', cap', zs, hcs, _, hl, hm, _, hcell⟩
  · simp only [Value.cells, List.cons.injEq, Value.slice.injEq, and_true] at hcs
    obtain ⟨rfl, rfl, rfl⟩ := hcs
    exact ⟨none, 0, 0, fun _ => false, rfl, Nat.le_refl _, by unfold maxLen; omega, fun i hi => absurd hi (by omega)⟩
  · simp only [Value.cells, List.cons.injEq, Value.slice.injEq, and_true] at hcs
    obtain ⟨rfl, rfl, rfl⟩ := hcs
    refine ⟨some a, len, cap, zs, rfl, hl, hm, fun i hi => ⟨a, rfl, ?_, hcell i (by omega)⟩⟩
    have := cell_lt (hcell i (by omega)); rwa [block_of_add] at this
end
end Go.Proofs.YtaamfcbpelbboaaDoor
