/-
  Layer 17: plain facts: what goes round by quarters.
-/
import Derived.Test.YtnelcbbjnpaodaaG24
import Derived.Test.YtnelcbbjnpaodaaFlo1
namespace Go.Proofs.Ytnelcbbjnpaodaa
open Go.RowKit
set_option linter.unusedVariables false
set_option linter.unusedSimpArgs false
set_option maxRecDepth 100000
/-- Two parts, multiplied. -/
def cml (x y : Int × Int) : Int × Int := (x.1 * y.1 - x.2 * y.2, x.1 * y.2 + x.2 * y.1)
/-- So many turns of a quarter (s: this way or that), one by one. -/
def stp (s : Int) : Nat → Int × Int
  | 0 => (1, 0)
  | k + 1 => cml (stp s k) (0, s)
def fct (s : Int) (k : Nat) : Nat → Int × Int
  | 0 => (1, 0)
  | n + 1 => cml (fct s k n) (stp s k)
/-- The sum of the first n, each turned. -/
def smm (s : Int) (x : Nat → Int × Int) (k : Nat) : Nat → Int × Int
  | 0 => (0, 0)
  | n + 1 => ((smm s x k n).1 + (cml (x n) (fct s k n)).1, (smm s x k n).2 + (cml (x n) (fct s k n)).2)
theorem unit4 : ∀ s : Fin 2, ∀ k n : Fin 5, ((stp (2 * (s.val : Int) - 1) k.val).1.natAbs + (stp (2 * (s.val : Int) - 1) k.val).2.natAbs ≤ 1) ∧ ((fct (2 * (s.val : Int) - 1) k.val n.val).1.natAbs + (fct (2 * (s.val : Int) - 1) k.val n.val).2.natAbs ≤ 1) := by decide +kernel
theorem stp_bd {s : Int} (hs : s = 1 ∨ s = -1) {k : Nat} (hk : k ≤ 4) : (stp s k).1.natAbs + (stp s k).2.natAbs ≤ 1 := by
  rcases hs with rfl | rfl
  · exact (unit4 1 ⟨k, by omega⟩ 0).1
  · exact (unit4 0 ⟨k, by omega⟩ 0).1
theorem fct_bd {s : Int} (hs : s = 1 ∨ s = -1) {k n : Nat} (hk : k ≤ 4) (hn : n ≤ 4) : (fct s k n).1.natAbs + (fct s k n).2.natAbs ≤ 1 := by
  rcases hs with rfl | rfl
  · exact (unit4 1 ⟨k, by omega⟩ ⟨n, by omega⟩).2
  · exact (unit4 0 ⟨k, by omega⟩ ⟨n, by omega⟩).2
/-- One of 0, 1, -1, and the other 0: all products are small. -/
theorem unit_cases {a b : Int} (h : a.natAbs + b.natAbs ≤ 1) : (a = 0 ∧ (b = 0 ∨ b = 1 ∨ b = -1)) ∨ (b = 0 ∧ (a = 1 ∨ a = -1)) := by omega
theorem unit_mul {x : Int × Int} {a b : Int} (h : a.natAbs + b.natAbs ≤ 1) {M : Nat} (h1 : x.1.natAbs ≤ M) (h2 : x.2.natAbs ≤ M) :
    (x.1 * a).natAbs ≤ M ∧ (x.2 * b).natAbs ≤ M ∧ (x.1 * b).natAbs ≤ M ∧ (x.2 * a).natAbs ≤ M ∧ (x.1 * a - x.2 * b).natAbs ≤ M ∧ (x.1 * b + x.2 * a).natAbs ≤ M := by
  rcases unit_cases h with ⟨rfl, rfl | rfl | rfl⟩ | ⟨rfl, rfl | rfl⟩ <;> simp only [Int.mul_zero, Int.mul_one, Int.mul_neg_one, Int.mul_neg] <;> refine ⟨?_, ?_, ?_, ?_, ?_, ?_⟩ <;> omega
theorem smm_bd {s : Int} (hs : s = 1 ∨ s = -1) {x : Nat → Int × Int} {M : Nat} (hx : ∀ i, i < 4 → (x i).1.natAbs ≤ M ∧ (x i).2.natAbs ≤ M) {k : Nat} (hk : k ≤ 4) : ∀ {n : Nat}, n ≤ 4 → (smm s x k n).1.natAbs ≤ n * M ∧ (smm s x k n).2.natAbs ≤ n * M
  | 0, _ => by simp [smm]
  | n + 1, hn => by
    obtain ⟨a, b⟩ := smm_bd hs hx hk (n := n) (by omega)
    obtain ⟨c, d⟩ := hx n (by omega)
    obtain ⟨_, _, _, _, e, f⟩ := unit_mul (fct_bd hs hk (by omega : n ≤ 4)) c d
    simp only [smm, cml]
    rw [Nat.succ_mul]
    constructor <;> omega
/-- What there is of four numbers by no, one, two, three quarters backward. -/
theorem smm_on (x : Nat → Int × Int) : smm (-1) x 0 4 = ((x 0).1 + (x 1).1 + (x 2).1 + (x 3).1, (x 0).2 + (x 1).2 + (x 2).2 + (x 3).2) ∧ smm (-1) x 1 4 = ((x 0).1 + (x 1).2 - (x 2).1 - (x 3).2, (x 0).2 - (x 1).1 - (x 2).2 + (x 3).1) ∧
    smm (-1) x 2 4 = ((x 0).1 - (x 1).1 + (x 2).1 - (x 3).1, (x 0).2 - (x 1).2 + (x 2).2 - (x 3).2) ∧ smm (-1) x 3 4 = ((x 0).1 - (x 1).2 - (x 2).1 + (x 3).2, (x 0).2 + (x 1).1 - (x 2).2 - (x 3).1) := by
  refine ⟨?_, ?_, ?_, ?_⟩ <;> simp [smm, fct, stp, cml] <;> constructor <;> omega
theorem smm_back (x : Nat → Int × Int) : smm 1 x 0 4 = ((x 0).1 + (x 1).1 + (x 2).1 + (x 3).1, (x 0).2 + (x 1).2 + (x 2).2 + (x 3).2) ∧ smm 1 x 1 4 = ((x 0).1 - (x 1).2 - (x 2).1 + (x 3).2, (x 0).2 + (x 1).1 - (x 2).2 - (x 3).1) ∧
    smm 1 x 2 4 = ((x 0).1 - (x 1).1 + (x 2).1 - (x 3).1, (x 0).2 - (x 1).2 + (x 2).2 - (x 3).2) ∧ smm 1 x 3 4 = ((x 0).1 + (x 1).2 - (x 2).1 - (x 3).2, (x 0).2 - (x 1).1 - (x 2).2 + (x 3).1) := by
  refine ⟨?_, ?_, ?_, ?_⟩ <;> simp [smm, fct, stp, cml] <;> constructor <;> omega
/-- What there is of four whole numbers, part by part: the eight parts. -/
def bns (f : Nat → Int) (j : Nat) : Int := match j with
  | 0 => f 0 + f 1 + f 2 + f 3
  | 1 => 0
  | 2 => f 0 - f 2
  | 3 => f 3 - f 1
  | 4 => f 0 - f 1 + f 2 - f 3
  | 5 => 0
  | 6 => f 0 - f 2
  | _ => f 1 - f 3
/-- A sum of pairs, part by part. -/
def prt (y : Nat → Int × Int) (j : Nat) : Int := if j % 2 = 0 then (y (j / 2)).1 else (y (j / 2)).2
theorem bns_of (f : Nat → Int) {j : Nat} (hj : j < 8) : prt (fun k => smm (-1) (fun n => (f n, 0)) k 4) j = bns f j := by
  obtain ⟨h0, h1, h2, h3⟩ := smm_on fun n => (f n, 0)
  have : j = 0 ∨ j = 1 ∨ j = 2 ∨ j = 3 ∨ j = 4 ∨ j = 5 ∨ j = 6 ∨ j = 7 := by omega
  rcases this with rfl | rfl | rfl | rfl | rfl | rfl | rfl | rfl <;> simp [prt, bns, h0, h1, h2, h3] <;> omega
/-- What is turned back out of eight parts, four times. -/
def bk4 (b : Nat → Int) (n : Nat) : Int := match n with
  | 0 => b 0 + b 2 + b 4 + b 6
  | 1 => b 0 - b 3 - b 4 + b 7
  | 2 => b 0 - b 2 + b 4 - b 6
  | _ => b 0 + b 3 - b 4 - b 7
theorem bk4_of (b : Nat → Int) {n : Nat} (hn : n < 4) : (smm 1 (fun k => (b (k * 2), b (k * 2 + 1))) n 4).1 = bk4 b n := by
  obtain ⟨h0, h1, h2, h3⟩ := smm_back fun k => (b (k * 2), b (k * 2 + 1))
  have : n = 0 ∨ n = 1 ∨ n = 2 ∨ n = 3 := by omega
  rcases this with rfl | rfl | rfl | rfl <;> simp [bk4, h0, h1, h2, h3]
/-- The four numbers that are turned back. -/
def und (b : Nat → Int) (n : Nat) : Int := Int.tdiv (bk4 b n) 4
theorem und_bns (f : Nat → Int) {n : Nat} (hn : n < 4) : und (bns f) n = f n := by
  have : n = 0 ∨ n = 1 ∨ n = 2 ∨ n = 3 := by omega
  unfold und
  have key : bk4 (bns f) n = 4 * f n := by rcases this with rfl | rfl | rfl | rfl <;> simp [bk4, bns] <;> omega
  rw [key, Int.mul_tdiv_cancel_left _ (by decide)]
theorem und_bd {b : Nat → Int} {M : Nat} (h : ∀ j, j < 8 → (b j).natAbs ≤ M) {n : Nat} (hn : n < 4) : (und b n).natAbs ≤ M := by
  have h0 := h 0 (by decide)
  have h2 := h 2 (by decide)
  have h3 := h 3 (by decide)
  have h4 := h 4 (by decide)
  have h6 := h 6 (by decide)
  have h7 := h 7 (by decide)
  have key : (bk4 b n).natAbs ≤ 4 * M := by
    have : n = 0 ∨ n = 1 ∨ n = 2 ∨ n = 3 := by omega
    rcases this with rfl | rfl | rfl | rfl <;> simp only [bk4] <;> omega
  have e : (und b n).natAbs = (bk4 b n).natAbs / 4 := Int.natAbs_tdiv _ 4
  rw [e]; omega
/-- The reference's four numbers. -/
def rbk4 (b : Nat → Int) (n : Nat) : Int := match n with
  | 0 => b 0 + b 4 + 2 * b 2
  | 1 => b 0 - b 4 - 2 * b 3
  | 2 => b 0 + b 4 - 2 * b 2
  | _ => b 0 - b 4 + 2 * b 3
def rnd_ (b : Nat → Int) (n : Nat) : Int := Int.tdiv (rbk4 b n) 4
theorem rnd_bns (f : Nat → Int) {n : Nat} (hn : n < 4) : rnd_ (bns f) n = f n := by
  have : n = 0 ∨ n = 1 ∨ n = 2 ∨ n = 3 := by omega
  unfold rnd_
  have key : rbk4 (bns f) n = 4 * f n := by rcases this with rfl | rfl | rfl | rfl <;> simp [rbk4, bns] <;> omega
  rw [key, Int.mul_tdiv_cancel_left _ (by decide)]
/-- The eight parts are those of what is turned back. -/
def fits (b : Nat → Int) : Bool := (List.range 8).all fun j => bns (und b) j == b j
theorem fits_iff (b : Nat → Int) : fits b = true ↔ ∀ j, j < 8 → bns (und b) j = b j := by
  unfold fits
  simp
theorem bns_congr {f g : Nat → Int} (h : ∀ i, i < 4 → f i = g i) (j : Nat) : bns f j = bns g j := by
  have h0 := h 0 (by decide)
  have h1 := h 1 (by decide)
  have h2 := h 2 (by decide)
  have h3 := h 3 (by decide)
  unfold bns
  rw [h0, h1, h2, h3]
theorem bk4_congr {b c : Nat → Int} (h : ∀ j, j < 8 → b j = c j) (n : Nat) : bk4 b n = bk4 c n := by
  unfold bk4
  rw [h 0 (by decide), h 2 (by decide), h 3 (by decide), h 4 (by decide), h 6 (by decide), h 7 (by decide)]
theorem rbk4_congr {b c : Nat → Int} (h : ∀ j, j < 8 → b j = c j) (n : Nat) : rbk4 b n = rbk4 c n := by
  unfold rbk4
  rw [h 0 (by decide), h 2 (by decide), h 3 (by decide), h 4 (by decide)]
/-- Both ways back find the same four, or neither. -/
theorem fits_ref {b : Nat → Int} (h : fits b = true) {n : Nat} (hn : n < 4) : rnd_ b n = und b n := by
  rw [fits_iff] at h
  have : rnd_ b n = rnd_ (bns (und b)) n := by unfold rnd_; rw [rbk4_congr (fun j hj => (h j hj).symm)]
  rw [this, rnd_bns _ hn]
theorem fits_of {b f : Nat → Int} (h : ∀ j, j < 8 → bns f j = b j) : fits b = true ∧ ∀ n, n < 4 → und b n = f n := by
  have hu : ∀ n, n < 4 → und b n = f n := fun n hn => by
    have : und b n = und (bns f) n := by unfold und; rw [bk4_congr (fun j hj => (h j hj).symm)]
    rw [this, und_bns f hn]
  exact ⟨(fits_iff b).2 fun j hj => by rw [bns_congr hu]; exact h j hj, hu⟩
theorem fits_rbns (b : Nat → Int) : fits b = ((List.range 8).all fun j => bns (rnd_ b) j == b j) := by
  cases hf : fits b with
  | true =>
    symm
    have h2 := (fits_iff b).1 hf
    simp only [List.all_eq_true, List.mem_range, beq_iff_eq]
    intro j hj
    rw [bns_congr (fun n hn => fits_ref hf hn)]
    exact h2 j hj
  | false =>
    symm
    apply Bool.eq_false_iff.2
    intro h
    simp only [List.all_eq_true, List.mem_range, beq_iff_eq] at h
    rw [(fits_of h).1] at hf
    cases hf
end Go.Proofs.Ytnelcbbjnpaodaa
