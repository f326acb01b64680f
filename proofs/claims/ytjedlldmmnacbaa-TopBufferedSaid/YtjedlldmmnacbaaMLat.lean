/-
  Plain facts on bits driven by a mask, for every byte.
-/
import Derived.Test.YtjedlldmmnacbaaA7
import Derived.Test.YtjedlldmmnacbaaLat1
namespace Go.Proofs.Ytjedlldmmnacbaa
open Go.RowKit
set_option maxRecDepth 100000
theorem bv_of (b : Int) (h0 : 0 ≤ b) (h1 : b ≤ 255) : ∃ x : BitVec 8, b = (x.toNat : Int) := by
  obtain ⟨n, rfl⟩ := Int.eq_ofNat_of_zero_le h0
  exact ⟨BitVec.ofNat 8 n, by simp; omega⟩
theorem bv_bit_all : ∀ n : Nat, n < 256 → ∀ i : Nat, i < 8 → rbit (n : Int) (i : Int) = (BitVec.ofNat 8 n).getLsbD i := by decide +kernel
theorem bv_bit (x : BitVec 8) (i : Nat) (hi : i < 8) : rbit (x.toNat : Int) (i : Int) = x.getLsbD i := by
  rw [bv_bit_all x.toNat x.isLt i hi, BitVec.ofNat_toNat, BitVec.setWidth_eq]
theorem bv_all_all : ∀ n : Nat, n < 256 → ofTo [(BitVec.ofNat 8 n).getLsbD 0, (BitVec.ofNat 8 n).getLsbD 1, (BitVec.ofNat 8 n).getLsbD 2, (BitVec.ofNat 8 n).getLsbD 3, (BitVec.ofNat 8 n).getLsbD 4, (BitVec.ofNat 8 n).getLsbD 5, (BitVec.ofNat 8 n).getLsbD 6, (BitVec.ofNat 8 n).getLsbD 7] 8 = (n : Int) := by decide +kernel
theorem bv_all (x : BitVec 8) : ofTo [x.getLsbD 0, x.getLsbD 1, x.getLsbD 2, x.getLsbD 3, x.getLsbD 4, x.getLsbD 5, x.getLsbD 6, x.getLsbD 7] 8 = (x.toNat : Int) := by
  have h := bv_all_all x.toNat x.isLt
  rwa [BitVec.ofNat_toNat, BitVec.setWidth_eq] at h
theorem wrap_bv (x : BitVec 8) : IntKind.u8.wrap (x.toNat : Int) = (x.toNat : Int) := by
  rw [IntKind.wrap_u8]
  have := x.isLt
  omega
theorem ofInt_bv (x : BitVec 8) : BitVec.ofInt 8 (x.toNat : Int) = x := by
  apply BitVec.eq_of_toNat_eq
  rw [BitVec.toNat_ofInt]
  have := x.isLt
  omega
theorem mix_bv (v m b : BitVec 8) : mixI v.toNat m.toNat b.toNat = (((v &&& ~~~m) ||| (b &&& m)).toNat : Int) := by
  have e1 : bits .andNot .u8 (v.toNat : Int) (m.toNat : Int) = ((v &&& ~~~m).toNat : Int) := by
    show IntKind.u8.wrap (((BitVec.ofInt 8 (v.toNat : Int)) &&& ~~~(BitVec.ofInt 8 (m.toNat : Int))).toNat : Int) = _
    rw [ofInt_bv, ofInt_bv, wrap_bv]
  have e2 : bits .and .u8 (b.toNat : Int) (m.toNat : Int) = ((b &&& m).toNat : Int) := by
    show IntKind.u8.wrap (((BitVec.ofInt 8 (b.toNat : Int)) &&& (BitVec.ofInt 8 (m.toNat : Int))).toNat : Int) = _
    rw [ofInt_bv, ofInt_bv, wrap_bv]
  unfold mixI
  rw [e1, e2]
  show IntKind.u8.wrap (((BitVec.ofInt 8 ((v &&& ~~~m).toNat : Int)) ||| (BitVec.ofInt 8 ((b &&& m).toNat : Int))).toNat : Int) = _
  rw [ofInt_bv, ofInt_bv, wrap_bv]
theorem mix_byte (v m b : Int) (v0 : 0 ≤ v) (v1 : v ≤ 255) (m0 : 0 ≤ m) (m1 : m ≤ 255) (b0 : 0 ≤ b) (b1 : b ≤ 255) : 0 ≤ mixI v m b ∧ mixI v m b ≤ 255 := by
  obtain ⟨x, rfl⟩ := bv_of v v0 v1
  obtain ⟨y, rfl⟩ := bv_of m m0 m1
  obtain ⟨z, rfl⟩ := bv_of b b0 b1
  rw [mix_bv]
  have := ((x &&& ~~~y) ||| (z &&& y)).isLt
  omega
/-- Bit by bit: the mask's bits are those of b, all others stay. -/
theorem mix_bit (v m b : Int) (v0 : 0 ≤ v) (v1 : v ≤ 255) (m0 : 0 ≤ m) (m1 : m ≤ 255) (b0 : 0 ≤ b) (b1 : b ≤ 255) (i : Nat) (hi : i < 8) :
    rbit (mixI v m b) i = if rbit m i then rbit b i else rbit v i := by
  obtain ⟨x, rfl⟩ := bv_of v v0 v1
  obtain ⟨y, rfl⟩ := bv_of m m0 m1
  obtain ⟨z, rfl⟩ := bv_of b b0 b1
  rw [mix_bv, bv_bit _ i hi, bv_bit _ i hi, bv_bit _ i hi, bv_bit _ i hi, BitVec.getLsbD_or, BitVec.getLsbD_and, BitVec.getLsbD_and, BitVec.getLsbD_not]
  cases x.getLsbD i <;> cases y.getLsbD i <;> cases z.getLsbD i <;> simp [hi]
/-- Nothing driven: all stays. -/
theorem mix_zero (v b : Int) (v0 : 0 ≤ v) (v1 : v ≤ 255) (b0 : 0 ≤ b) (b1 : b ≤ 255) : mixI v 0 b = v := by
  obtain ⟨x, rfl⟩ := bv_of v v0 v1
  obtain ⟨z, rfl⟩ := bv_of b b0 b1
  have h := mix_bv x 0#8 z
  rw [show ((0#8).toNat : Int) = 0 from rfl] at h
  rw [h, show (x &&& ~~~0#8) ||| (z &&& 0#8) = x by rw [BitVec.and_zero, BitVec.or_zero, BitVec.not_zero, BitVec.and_allOnes]]
/-- A byte is what its bits make. -/
theorem of_bits (b : Int) (b0 : 0 ≤ b) (b1 : b ≤ 255) (f : Nat → Bool) (hf : ∀ i, i < 8 → f i = rbit b i) : ofTo [f 0, f 1, f 2, f 3, f 4, f 5, f 6, f 7] 8 = b := by
  obtain ⟨x, rfl⟩ := bv_of b b0 b1
  rw [hf 0 (by omega), hf 1 (by omega), hf 2 (by omega), hf 3 (by omega), hf 4 (by omega), hf 5 (by omega), hf 6 (by omega), hf 7 (by omega)]
  rw [bv_bit x 0 (by omega), bv_bit x 1 (by omega), bv_bit x 2 (by omega), bv_bit x 3 (by omega), bv_bit x 4 (by omega), bv_bit x 5 (by omega), bv_bit x 6 (by omega), bv_bit x 7 (by omega)]
  exact bv_all x
end Go.Proofs.Ytjedlldmmnacbaa
