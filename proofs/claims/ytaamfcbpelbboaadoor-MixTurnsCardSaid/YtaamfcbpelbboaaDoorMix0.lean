/-
  Plain facts of layer 16: how strong what is so many steps weaker is, what a side of a voice makes; tables that are read alone.
-/
import Derived.Test.YtaamfcbpelbboaaDoorG12
import Derived.Test.YtaamfcbpelbboaaDoorFlo0
namespace Go.Proofs.YtaamfcbpelbboaaDoor
open Go.RowKit
set_option linter.unusedVariables false
set_option maxRecDepth 100000
/-- The four powers. -/
def pw (k : Nat) : Int := match k with | 0 => 4096 | 1 => 3444 | 2 => 2896 | _ => 2435
/-- The four depths. -/
def dp (k : Nat) : Int := match k with | 0 => 0 | 1 => 1 | 2 => 16 | _ => 256
/-- In the block b lie n integers. -/
def TabAt (w : World) (b n : Nat) (f : Nat → Int) : Prop := b < w.heap.size ∧ ∀ k, k < n → w.cell? ⟨b, k, none⟩ = some (.int .i64 (f k))
section
variable {w w' : World} {b n : Nat} {f : Nat → Int} {L : List Nat}
theorem TabAt.keep {B : Nat} (h : TabAt w b n f) (hb : Below B w w') (hB : b < B) : TabAt w' b n f := ⟨Nat.lt_of_lt_of_le h.1 hb.size, fun k hk => (World.cell?_of_block (hb.block b hB)).trans (h.2 k hk)⟩
theorem TabAt.below (h : TabAt w b n f) (hb : Below w.heap.size w w') : TabAt w' b n f := h.keep hb h.1
theorem TabAt.kp (h : TabAt w b n f) (k : Kp L w w') (hL : b ∉ L) : TabAt w' b n f := ⟨Nat.lt_of_lt_of_le h.1 k.size, fun j hj => (k.cell h.1 hL).trans (h.2 j hj)⟩
end
/-- How strong what is l steps weaker is. -/
def pwr (l : Int) : Int := if l < 0 then 4096 else if 48 ≤ l then 0 else pw (l.toNat % 4) / 2 ^ (l.toNat / 4)
theorem pwr_fin : ∀ l : Fin 48, 0 ≤ pwr (l.val : Int) ∧ pwr (l.val : Int) ≤ 4096 := by decide +kernel
theorem pwr_four_fin : ∀ l : Fin 44, pwr ((l.val : Int) + 4) = pwr (l.val : Int) / 2 := by decide +kernel
theorem pwr_one_fin : ∀ l : Fin 61, pwr ((l.val : Int) + 1) ≤ pwr (l.val : Int) := by decide +kernel
theorem pwr_bd (l : Int) : 0 ≤ pwr l ∧ pwr l ≤ 4096 := by
  by_cases h : 0 ≤ l ∧ l < 48
  · have := pwr_fin ⟨l.toNat, by omega⟩
    rwa [show ((⟨l.toNat, by omega⟩ : Fin 48).val : Int) = l by simp; omega] at this
  · unfold pwr
    by_cases h0 : l < 0
    · rw [if_pos h0]; decide
    · rw [if_neg h0, if_pos (by omega)]; decide
theorem pwr_four {l : Int} (h0 : 0 ≤ l) (h1 : l ≤ 43) : pwr (l + 4) = pwr l / 2 := by
  have := pwr_four_fin ⟨l.toNat, by omega⟩
  rwa [show ((⟨l.toNat, by omega⟩ : Fin 44).val : Int) = l by simp; omega] at this
theorem pwr_one {l : Int} (h0 : 0 ≤ l) (h1 : l ≤ 60) : pwr (l + 1) ≤ pwr l := by
  have := pwr_one_fin ⟨l.toNat, by omega⟩
  rwa [show ((⟨l.toNat, by omega⟩ : Fin 61).val : Int) = l by simp; omega] at this
/-- How many steps weaker a side of a voice is. -/
def lssOf (v b m : Int) : Int := 31 - v % 32 + 2 * (15 - b % 16) + 2 * (15 - m % 16)
/-- What a side of a voice makes. -/
def sideOf (l v b m : Int) : Int := (2 * (l % 32) - 31) * pwr (lssOf v b m)
theorem side_bd (l v b m : Int) : -126976 ≤ sideOf l v b m ∧ sideOf l v b m ≤ 126976 := by
  unfold sideOf
  obtain ⟨p0, p1⟩ := pwr_bd (lssOf v b m)
  generalize pwr (lssOf v b m) = P at *
  have h0 : 0 ≤ l % 32 := Int.emod_nonneg _ (by decide)
  have h1 : l % 32 < 32 := Int.emod_lt_of_pos _ (by decide)
  generalize l % 32 = q at *
  have e : (2 * q - 31) * P = 2 * (q * P) - 31 * P := by rw [Int.sub_mul, Int.mul_assoc]
  have a0 : 0 ≤ q * P := Int.mul_nonneg h0 p0
  have a1 : q * P ≤ 31 * P := Int.mul_le_mul_of_nonneg_right (by omega) p0
  omega
/-- Halved n times. -/
theorem pw_half (p : Int) (n : Nat) : p / 2 ^ (n + 1) = p / 2 ^ n / 2 := by rw [Int.pow_succ, Int.ediv_ediv_of_nonneg (Int.pow_nonneg (by decide))]
theorem pw_bd (k : Nat) : 0 ≤ pw k ∧ pw k ≤ 4096 := by unfold pw; split <;> decide
theorem pwh_bd (k n : Nat) : 0 ≤ pw k / 2 ^ n ∧ pw k / 2 ^ n ≤ 4096 := by
  obtain ⟨a, b⟩ := pw_bd k
  refine ⟨Int.ediv_nonneg a (Int.pow_nonneg (by decide)), Int.le_trans (Int.ediv_le_self _ a) b⟩
/-- A voice: its level, its volume, both sides. -/
structure Vc where
  lv : Int
  vo : Int
  lf : Int
  rt : Int
def Vc.ok (v : Vc) : Prop := (0 ≤ v.lv ∧ v.lv ≤ 255) ∧ (0 ≤ v.vo ∧ v.vo ≤ 255) ∧ (0 ≤ v.lf ∧ v.lf ≤ 255) ∧ (0 ≤ v.rt ∧ v.rt ≤ 255)
/-- Its four numbers, one by one. -/
def Vc.fld (v : Vc) (j : Nat) : Int := match j with | 0 => v.lv | 1 => v.vo | 2 => v.lf | _ => v.rt
/-- What a voice makes of its left side, or of its right one. -/
def Vc.left (v : Vc) (m : Int) : Int := sideOf v.lv v.vo v.lf m
def Vc.right (v : Vc) (m : Int) : Int := sideOf v.lv v.vo v.rt m
/-- The sum of so many. -/
def sumTo (f : Nat → Int) : Nat → Int
  | 0 => 0
  | n + 1 => sumTo f n + f n
theorem sum_bd {f : Nat → Int} {n : Nat} (h : ∀ i, i < n → -126976 ≤ f i ∧ f i ≤ 126976) : -126976 * (n : Int) ≤ sumTo f n ∧ sumTo f n ≤ 126976 * (n : Int) := by
  induction n with
  | zero => simp [sumTo]
  | succ n ih =>
    obtain ⟨a, b⟩ := ih fun i hi => h i (by omega)
    obtain ⟨c, d⟩ := h n (by omega)
    simp only [sumTo]
    omega
theorem sum_congr {f g : Nat → Int} {n : Nat} (h : ∀ i, i < n → f i = g i) : sumTo f n = sumTo g n := by
  induction n with
  | zero => rfl
  | succ n ih => simp only [sumTo]; rw [ih fun i hi => h i (by omega), h n (by omega)]
theorem sum_front (f : Nat → Int) (n : Nat) : sumTo f (n + 1) = f 0 + sumTo (fun i => f (i + 1)) n := by
  induction n with
  | zero => simp [sumTo]
  | succ n ih => rw [sumTo, ih, sumTo]; omega
/-- The sum of all, turned about, is the sum. -/
theorem sum_back (f : Nat → Int) (n : Nat) : sumTo (fun i => f (n - 1 - i)) n = sumTo f n := by
  induction n with
  | zero => rfl
  | succ n ih =>
    rw [sum_front, sumTo, ← ih, Int.add_comm]
    congr 1
    exact sum_congr fun i hi => by congr 1; omega
end Go.Proofs.YtaamfcbpelbboaaDoor
