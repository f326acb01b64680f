/-
  Logic: the answer's Test, Lay, And, Or, Eor, Turn; what must be whatever is asked.
-/
import Derived.Test.YtkmcfmflihkdjaaLgc2
import Derived.Test.YtkmcfmflihkdjaaAdd3
namespace Go.Proofs.Ytkmcfmflihkdjaa
open Go.RowKit
set_option linter.unusedVariables false
set_option linter.unusedSimpArgs false
set_option maxRecDepth 100000
theorem fv_xor (v m : BitVec 8) : bits .xor .u8 (v.toNat : Int) (m.toNat : Int) = ((v ^^^ m).toNat : Int) := by
  show IntKind.u8.wrap (((BitVec.ofInt 8 (v.toNat : Int)) ^^^ (BitVec.ofInt 8 (m.toNat : Int))).toNat : Int) = _
  rw [fv_ofInt, fv_ofInt, fv_wrap]
theorem rbit_out (b : Int) (k : Nat) (h : 8 ≤ k) : rbit b k = false := by unfold rbit; rw [if_neg (by omega)]
theorem lay_and (a b : Int) (a0 : 0 ≤ a) (a1 : a ≤ 255) (b0 : 0 ≤ b) (b1 : b ≤ 255) : flS b (255 - a) false = bits .and .u8 a b := by
  obtain ⟨x, rfl⟩ := fv_of a a0 a1
  obtain ⟨y, rfl⟩ := fv_of b b0 b1
  have e : (255 : Int) - (x.toNat : Int) = ((~~~x).toNat : Int) := by rw [BitVec.toNat_not]; have := x.isLt; omega
  unfold flS
  rw [if_neg (by decide), e, fv_andNot, fv_and, BitVec.not_not, BitVec.and_comm]
theorem or_comm' (a b : Int) (a0 : 0 ≤ a) (a1 : a ≤ 255) (b0 : 0 ≤ b) (b1 : b ≤ 255) : bits .or .u8 b a = bits .or .u8 a b := by
  obtain ⟨x, rfl⟩ := fv_of a a0 a1
  obtain ⟨y, rfl⟩ := fv_of b b0 b1
  rw [fv_or, fv_or, BitVec.or_comm]
theorem and_comm' (a b : Int) (a0 : 0 ≤ a) (a1 : a ≤ 255) (b0 : 0 ≤ b) (b1 : b ≤ 255) : bits .and .u8 b a = bits .and .u8 a b := by
  obtain ⟨x, rfl⟩ := fv_of a a0 a1
  obtain ⟨y, rfl⟩ := fv_of b b0 b1
  rw [fv_and, fv_and, BitVec.and_comm]
theorem ofTo_bits : ∀ x0 x1 x2 x3 x4 x5 x6 x7 : Bool, ∀ i : Fin 8, rbit (ofTo [x0, x1, x2, x3, x4, x5, x6, x7] 8) (i.val : Int) = [x0, x1, x2, x3, x4, x5, x6, x7].getD i.val false := by decide +kernel
theorem xor_of (a b : Int) (a0 : 0 ≤ a) (a1 : a ≤ 255) (b0 : 0 ≤ b) (b1 : b ≤ 255) :
    ofTo [rbit a 0 != rbit b 0, rbit a 1 != rbit b 1, rbit a 2 != rbit b 2, rbit a 3 != rbit b 3, rbit a 4 != rbit b 4, rbit a 5 != rbit b 5, rbit a 6 != rbit b 6, rbit a 7 != rbit b 7] 8 = bits .xor .u8 a b := by
  obtain ⟨x, rfl⟩ := fv_of a a0 a1
  obtain ⟨y, rfl⟩ := fv_of b b0 b1
  refine byte_ext _ _ (ofTo_255 _ 8 (by decide)).1 (ofTo_255 _ 8 (by decide)).2 (bits_lo_u8 _ _ _) (bits_hi_u8 _ _ _) fun i hi => ?_
  rw [fv_xor, fv_bit _ i hi, BitVec.getLsbD_xor, ← fv_bit x i hi, ← fv_bit y i hi]
  have h := ofTo_bits (rbit (x.toNat : Int) 0 != rbit (y.toNat : Int) 0) (rbit (x.toNat : Int) 1 != rbit (y.toNat : Int) 1) (rbit (x.toNat : Int) 2 != rbit (y.toNat : Int) 2) (rbit (x.toNat : Int) 3 != rbit (y.toNat : Int) 3) (rbit (x.toNat : Int) 4 != rbit (y.toNat : Int) 4) (rbit (x.toNat : Int) 5 != rbit (y.toNat : Int) 5) (rbit (x.toNat : Int) 6 != rbit (y.toNat : Int) 6) (rbit (x.toNat : Int) 7 != rbit (y.toNat : Int) 7) ⟨i, hi⟩
  rw [h]
  have : i = 0 ∨ i = 1 ∨ i = 2 ∨ i = 3 ∨ i = 4 ∨ i = 5 ∨ i = 6 ∨ i = 7 := by omega
  rcases this with rfl | rfl | rfl | rfl | rfl | rfl | rfl | rfl <;> rfl
theorem bit_fin : ∀ v : Fin 256, bitB (v.val : Int) 7 = rbit (v.val : Int) 7 ∧ bitB (v.val : Int) 6 = rbit (v.val : Int) 6 ∧ bitB (v.val : Int) 0 = rbit (v.val : Int) 0 := by decide +kernel
theorem bit_eq (v : Int) (v0 : 0 ≤ v) (v1 : v ≤ 255) : bitB v 7 = rbit v 7 ∧ bitB v 6 = rbit v 6 ∧ bitB v 0 = rbit v 0 := by
  have := bit_fin ⟨v.toNat, by omega⟩
  rwa [show ((⟨v.toNat, by omega⟩ : Fin 256).val : Int) = v by simp; omega] at this
theorem sh_fin : ∀ v : Fin 256, ∀ i : Bool, ofTo [i, rbit (v.val : Int) 0, rbit (v.val : Int) 1, rbit (v.val : Int) 2, rbit (v.val : Int) 3, rbit (v.val : Int) 4, rbit (v.val : Int) 5, rbit (v.val : Int) 6] 8 = slV (v.val : Int) i ∧
    ofTo [rbit (v.val : Int) 1, rbit (v.val : Int) 2, rbit (v.val : Int) 3, rbit (v.val : Int) 4, rbit (v.val : Int) 5, rbit (v.val : Int) 6, rbit (v.val : Int) 7, i] 8 = srV (v.val : Int) i := by decide +kernel
theorem sh_eq (v : Int) (i : Bool) (v0 : 0 ≤ v) (v1 : v ≤ 255) : ofTo [i, rbit v 0, rbit v 1, rbit v 2, rbit v 3, rbit v 4, rbit v 5, rbit v 6] 8 = slV v i ∧ ofTo [rbit v 1, rbit v 2, rbit v 3, rbit v 4, rbit v 5, rbit v 6, rbit v 7, i] 8 = srV v i := by
  have := sh_fin ⟨v.toNat, by omega⟩ i
  rwa [show ((⟨v.toNat, by omega⟩ : Fin 256).val : Int) = v by simp; omega] at this
theorem slV_bd (v : Int) (i : Bool) : 0 ≤ slV v i ∧ slV v i ≤ 255 := withI_bd _ _ _
theorem srV_bd (v : Int) (i : Bool) : 0 ≤ srV v i ∧ srV v i ≤ 255 := withI_bd _ _ _
theorem rsl_any (b : Int) (i : Bool) (w : World) (h0 : 0 ≤ b) (h1 : b ≤ 255) : Calls Try.prog 63 #[.int .u8 b, .bool i] w fun e w' => e = .returned (.tuple #[.int .u8 (slV b i), .bool (bitB b 7)]) ∧ Below w.heap.size w w' := by
  have := rleft_any b i w h0 h1
  rwa [(sh_eq b i h0 h1).1, ← (bit_eq b h0 h1).1] at this
theorem rsr_any (b : Int) (i : Bool) (w : World) (h0 : 0 ≤ b) (h1 : b ≤ 255) : Calls Try.prog 64 #[.int .u8 b, .bool i] w fun e w' => e = .returned (.tuple #[.int .u8 (srV b i), .bool (bitB b 0)]) ∧ Below w.heap.size w w' := by
  have := rright_any b i w h0 h1
  rwa [(sh_eq b i h0 h1).2, ← (bit_eq b h0 h1).2.2] at this
set_option maxHeartbeats 4000000 in
theorem rlay_any (a m : Int) (on : Bool) (w : World) (a0 : 0 ≤ a) (a1 : a ≤ 255) (m0 : 0 ≤ m) (m1 : m ≤ 255) :
    Calls Try.prog 34 #[.int .u8 a, .int .u8 m, .bool on] w fun e w' => e = .returned (.int .u8 (flS m a on)) ∧ Below w.heap.size w w' := by
  have WA := Lib.hid (wk_all m a on m0 m1 a0 a1)
  have WB := Lib.hid (wk_bd m a on m0 m1)
  have BA := Lib.hid (fun (n : Int) W => rbit_any a n W a0 a1)
  clear m0 m1 a0 a1
  go_enter Try.func34, Try.ntmps34
  go_wp2_with fail
  go_loopw [1, 7] (fun q i wr => ∃ k : Nat, k ≤ 8 ∧ i = .int .i64 k ∧ q = .int .u8 (wk m a on k) ∧ Below w.heap.size w wr) (fun _ i _ => 8 - (intOf i).toNat)
  case atStart => exact ⟨0, by omega, rfl, rfl, Below.refl _ _⟩
  case round =>
    obtain ⟨k, hk, rfl, rfl, hB⟩ := hrel
    have HB := Lib.hid hB
    clear hB
    by_cases hlt : k < 8
    · obtain ⟨q0, q1⟩ := WB.out k
      have e : wk m a on (k + 1) = if rbit a k then rwith (wk m a on k) k on else wk m a on k := rfl
      obtain ⟨q, hq⟩ : ∃ q, wk m a on k = q := ⟨_, rfl⟩
      rw [hq] at e q0 q1 ⊢
      obtain ⟨r, hr⟩ : ∃ r, rwith q k on = r := ⟨_, rfl⟩
      have RW := fun W => rwith_any q k on W q0 q1
      rw [hr] at e RW
      have BK := BA.out (k : Int)
      obtain ⟨b, hb⟩ : ∃ b, rbit a (k : Int) = b := ⟨_, rfl⟩
      rw [hb] at e BK
      have HBK := Lib.hid BK
      have HRW := Lib.hid RW
      clear hq hr hb RW BK
      cases b with
      | true =>
        rw [if_pos rfl] at e
        have E := Lib.hid e
        clear e
        go_wp2_with fail
        refine (HBK.out _).mono ?_
        rintro e w' ⟨rfl, rfl⟩
        go_wp2_with fail
        refine (HRW.out _).mono ?_
        rintro e w2 ⟨rfl, b2⟩
        have HB2 := Lib.hid (HB.out.trans (b2.mono HB.out.size))
        clear b2
        go_wp2_with fail
        go_roundw
        case rel => exact ⟨k + 1, by omega, by go_num, by rw [E.out], HB2.out⟩
        case measure => simp [intOf]; omega
      | false =>
        rw [if_neg (by decide)] at e
        have E := Lib.hid e
        clear e
        go_wp2_with fail
        refine (HBK.out _).mono ?_
        rintro e w' ⟨rfl, rfl⟩
        go_wp2_with fail
        go_roundw
        case rel => exact ⟨k + 1, by omega, by go_num, by rw [E.out], HB.out⟩
        case measure => simp [intOf]; omega
    · obtain rfl : k = 8 := by omega
      rw [WA.out]
      go_wp2_with fail
      go_ret
      exact ⟨rfl, HB.out⟩
section
variable (a b : Int) (w : World) (a0 : 0 ≤ a) (a1 : a ≤ 255) (b0 : 0 ≤ b) (b1 : b ≤ 255)
include a0 a1 b0 b1
theorem rand_any : Calls Try.prog 31 #[.int .u8 a, .int .u8 b] w fun e w' => e = .returned (.int .u8 (bits .and .u8 a b)) ∧ Below w.heap.size w w' := by
  have L := Lib.hid (fun W => rlay_any (255 - a) b false W (by omega) (by omega) b0 b1)
  rw [lay_and a b a0 a1 b0 b1] at L
  clear b0 b1
  go_enter Try.func31, Try.ntmps31
  go_wp2_with fail
  refine (L.out _).mono ?_
  rintro e w2 ⟨rfl, b2⟩
  go_wp2_with fail
  go_ret
  exact ⟨rfl, b2⟩
theorem ror_any' : Calls Try.prog 32 #[.int .u8 a, .int .u8 b] w fun e w' => e = .returned (.int .u8 (bits .or .u8 a b)) ∧ Below w.heap.size w w' := by
  have L := Lib.hid (fun W => rlay_any a b true W a0 a1 b0 b1)
  rw [show flS b a true = bits .or .u8 a b from or_comm' a b a0 a1 b0 b1] at L
  clear b0 b1 a0 a1
  go_enter Try.func32, Try.ntmps32
  go_wp2_with fail
  refine (L.out _).mono ?_
  rintro e w2 ⟨rfl, b2⟩
  go_wp2_with fail
  go_ret
  exact ⟨rfl, b2⟩
end
end Go.Proofs.Ytkmcfmflihkdjaa
