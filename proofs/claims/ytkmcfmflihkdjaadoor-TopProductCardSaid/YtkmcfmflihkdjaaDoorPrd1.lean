/-
  A product by turns and sums: plain facts.
-/
import Derived.Test.YtkmcfmflihkdjaaDoorLgc1
import Derived.Test.YtkmcfmflihkdjaaDoorAdd2
import Derived.Test.YtkmcfmflihkdjaaDoorFlg5
namespace Go.Proofs.YtkmcfmflihkdjaaDoor
open Go.RowKit
set_option linter.unusedVariables false
set_option linter.unusedSimpArgs false
set_option maxRecDepth 100000
theorem pr_flags_fin : ∀ c x y : Bool, flI (flS (flS (flS 0 1 c) 128 x) 2 y) 1 = c := by decide +kernel
theorem pr_flags (c : Bool) (v : Int) : flI (lgR (flS 0 1 c) v) 1 = c := pr_flags_fin c _ _
theorem pr_flagp_fin : ∀ p : Fin 256, ∀ c x y : Bool, flI (flS (flS (flS (p.val : Int) 1 c) 128 x) 2 y) 1 = c := by decide +kernel
theorem pr_flagp (p v : Int) (c : Bool) (p0 : 0 ≤ p) (p1 : p ≤ 255) : flI (lgR (flS p 1 c) v) 1 = c := by
  have := pr_flagp_fin ⟨p.toNat, by omega⟩ c (bitB v 7) (v == 0)
  rwa [show ((⟨p.toNat, by omega⟩ : Fin 256).val : Int) = p by simp; omega] at this
theorem pr_add_fin : ∀ c d x y : Bool, flI (flS (flS (flS (flS 0 1 c) 64 d) 128 x) 2 y) 1 = c := by decide +kernel
theorem lgR_bd (p v : Int) : 0 ≤ lgR p v ∧ lgR p v ≤ 255 := by
  unfold lgR flS; split; exact ⟨bits_lo_u8 _ _ _, bits_hi_u8 _ _ _⟩; exact ⟨bits_lo_u8 _ _ _, bits_hi_u8 _ _ _⟩
theorem pr_add (h b : Int) : adV h b 0 = (h + b) % 256 ∧ flI (adP h b 0) 1 = decide (255 < h + b) ∧ 0 ≤ adP h b 0 ∧ adP h b 0 ≤ 255 := by
  have d : flI 0 8 = false := by decide +kernel
  have o : oI (flI 0 1) = 0 := by decide +kernel
  have e1 : adV h b 0 = bnV h b (flI 0 1) := by simp only [adV, d, Bool.false_eq_true, if_false]
  have e2 : adP h b 0 = bnP h b 0 := by simp only [adP, d, Bool.false_eq_true, if_false]
  rw [e1, e2]
  refine ⟨by unfold bnV; rw [o, Int.add_zero], ?_, lgR_bd _ _⟩
  unfold bnP
  rw [o, Int.add_zero]
  exact pr_add_fin _ _ _ _
theorem pr_sr_fin : ∀ v : Fin 256, ∀ i : Bool, srV (v.val : Int) i = (v.val : Int) / 2 + (if i then 128 else 0) ∧ bitB (v.val : Int) 0 = decide ((v.val : Int) % 2 = 1) := by decide +kernel
theorem pr_sr (v : Int) (i : Bool) (v0 : 0 ≤ v) (v1 : v ≤ 255) : srV v i = v / 2 + (if i then 128 else 0) ∧ bitB v 0 = decide (v % 2 = 1) := by
  have := pr_sr_fin ⟨v.toNat, by omega⟩ i
  rwa [show ((⟨v.toNat, by omega⟩ : Fin 256).val : Int) = v by simp; omega] at this
/-- What both bytes are behind k rounds. -/
def prV (a b : Int) (k : Nat) : Int := a / 2 ^ k + 2 ^ (8 - k) * (b * (a % 2 ^ k))
theorem prV_0 (a b : Int) : prV a b 0 = a := by unfold prV; simp
theorem prV_8 (a b : Int) (a0 : 0 ≤ a) (a1 : a ≤ 255) : prV a b 8 = a * b := by
  unfold prV
  rw [show a / 2 ^ 8 = 0 by omega, show a % 2 ^ 8 = a by omega, Int.zero_add, show (2 : Int) ^ (8 - 8) = 1 by decide, Int.one_mul, Int.mul_comm]
theorem prV_step (a b t : Int) (k : Nat) (hk : k < 8) (a0 : 0 ≤ a) (ht : a / 2 ^ k % 2 = t) : prV a b k % 2 = t ∧ prV a b (k + 1) = (prV a b k - t) / 2 + 128 * (t * b) := by
  have h01 : t = 0 ∨ t = 1 := by omega
  have hk' : k = 0 ∨ k = 1 ∨ k = 2 ∨ k = 3 ∨ k = 4 ∨ k = 5 ∨ k = 6 ∨ k = 7 := by omega
  have key : a % 2 ^ (k + 1) = a % 2 ^ k + 2 ^ k * t := by rcases hk' with rfl | rfl | rfl | rfl | rfl | rfl | rfl | rfl <;> omega
  have kd : a / 2 ^ (k + 1) = a / 2 ^ k / 2 := by rcases hk' with rfl | rfl | rfl | rfl | rfl | rfl | rfl | rfl <;> omega
  unfold prV
  rw [key, kd]
  generalize hx : a / 2 ^ k = x at *
  rw [Int.mul_add]
  rcases h01 with rfl | rfl
  · rw [Int.mul_zero, Int.mul_zero, Int.zero_mul]
    generalize b * (a % 2 ^ k) = P
    rcases hk' with rfl | rfl | rfl | rfl | rfl | rfl | rfl | rfl <;> simp only [Nat.reduceSub, Nat.reduceAdd, Int.reducePow] <;> omega
  · rw [Int.mul_one, Int.one_mul]
    generalize b * (a % 2 ^ k) = P
    rcases hk' with rfl | rfl | rfl | rfl | rfl | rfl | rfl | rfl <;> simp only [Nat.reduceSub, Nat.reduceAdd, Int.reducePow] <;> omega
theorem strOf_size (xs : List Int) : (strOfNums xs).size = xs.length := by simp [strOfNums, ByteArray.size]
theorem txt_ne (p : Int) : ((strOfNums (tx (flF p) 8)).toList == (⟨#[]⟩ : ByteArray).toList) = false := by
  apply ba_ne
  intro h
  have := congrArg ByteArray.size h
  rw [strOf_size, tx_len] at this
  cases this
theorem txt_em (p : Int) : (strOfNums (tx (flF p) 8)).toList.isEmpty = false := by
  rw [ByteArray.toList_eq]
  cases h : (strOfNums (tx (flF p) 8)).data.toList with
  | nil =>
    have h2 := strOf_size (tx (flF p) 8)
    rw [tx_len] at h2
    have h3 : (strOfNums (tx (flF p) 8)).data.size = 0 := by rw [← Array.length_toList, h]; rfl
    have h4 : (strOfNums (tx (flF p) 8)).size = (strOfNums (tx (flF p) 8)).data.size := rfl
    omega
  | cons a l => rfl
end Go.Proofs.YtkmcfmflihkdjaaDoor
