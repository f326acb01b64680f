/-
  Adder: plain facts on many bytes: decimal digits, and bytes, added and taken away.
-/
import Derived.Test.YtkmcfmflihkdjaaAdd5
namespace Go.Proofs.Ytkmcfmflihkdjaa
open Go.RowKit
set_option linter.unusedVariables false
set_option linter.unusedSimpArgs false
set_option maxRecDepth 100000
theorem flg_fin : ∀ p : Fin 256, ∀ c x y : Bool, flI (flS (flS (flS (p.val : Int) 1 c) 128 x) 2 y) 1 = c ∧ flI (flS (flS (flS (p.val : Int) 1 c) 128 x) 2 y) 8 = flI (p.val : Int) 8 := by decide +kernel
theorem flg_dec (p v : Int) (c : Bool) (p0 : 0 ≤ p) (p1 : p ≤ 255) : flI (flR (flS p 1 c) v) 1 = c ∧ flI (flR (flS p 1 c) v) 8 = flI p 8 := by
  have := flg_fin ⟨p.toNat, by omega⟩ c (bitB v 7) (v == 0)
  rwa [show ((⟨p.toNat, by omega⟩ : Fin 256).val : Int) = p by simp; omega] at this
theorem flh_fin : ∀ p : Fin 256, ∀ c d x y : Bool, flI (flS (flS (flS (flS (p.val : Int) 1 c) 64 d) 128 x) 2 y) 1 = c ∧ flI (flS (flS (flS (flS (p.val : Int) 1 c) 64 d) 128 x) 2 y) 8 = flI (p.val : Int) 8 := by decide +kernel
theorem flh_bin (p v : Int) (c d : Bool) (p0 : 0 ≤ p) (p1 : p ≤ 255) : flI (flR (flS (flS p 1 c) 64 d) v) 1 = c ∧ flI (flR (flS (flS p 1 c) 64 d) v) 8 = flI p 8 := by
  have := flh_fin ⟨p.toNat, by omega⟩ c d (bitB v 7) (v == 0)
  rwa [show ((⟨p.toNat, by omega⟩ : Fin 256).val : Int) = p by simp; omega] at this
theorem flR_bd (p v : Int) : 0 ≤ flR p v ∧ flR p v ≤ 255 := by unfold flR flS; split; exact ⟨bits_lo_u8 _ _ _, bits_hi_u8 _ _ _⟩; exact ⟨bits_lo_u8 _ _ _, bits_hi_u8 _ _ _⟩
theorem pk_lo (u : Int) (h0 : 0 ≤ u) (h1 : u ≤ 99) : pk u % 16 = u % 10 ∧ pk u / 16 = u / 10 := by unfold pk; omega
theorem adVal_pk (u v : Int) (c : Bool) (u0 : 0 ≤ u) (u1 : u ≤ 99) (v0 : 0 ≤ v) (v1 : v ≤ 99) : adVal (pk u) (pk v) c = pk ((u + v + oI c) % 100) ∧ adCar (pk u) (pk v) c = decide (100 ≤ u + v + oI c) := by
  obtain ⟨a1, a2⟩ := pk_lo u u0 u1
  obtain ⟨b1, b2⟩ := pk_lo v v0 v1
  obtain ⟨o0, o1⟩ := oI_bd c
  have hc : oI (adC (u % 10) (v % 10) c) = if 9 < u % 10 + v % 10 + oI c then 1 else 0 := by
    unfold adC adL
    by_cases h : u % 10 + v % 10 + oI c ≤ 9
    · rw [if_pos h, if_neg (by omega), decide_eq_false (by omega)]; rfl
    · rw [if_neg h, if_pos (by omega), decide_eq_true (by omega)]; rfl
  have hl : adL (u % 10) (v % 10) c % 16 = (u % 10 + v % 10 + oI c) % 10 := by unfold adL; split <;> omega
  unfold adVal adCar
  rw [a1, a2, b1, b2, hl]
  obtain ⟨c1, e1⟩ : ∃ c1, adC (u % 10) (v % 10) c = c1 := ⟨_, rfl⟩
  rw [e1] at hc ⊢
  unfold adC adL pk
  obtain ⟨r, hr⟩ : ∃ r, oI c1 = r := ⟨_, rfl⟩
  obtain ⟨o, ho⟩ : ∃ o, oI c = o := ⟨_, rfl⟩
  rw [hr] at hc ⊢
  rw [ho] at hc o0 o1 ⊢
  constructor
  · split at hc <;> split <;> omega
  · apply decide_eq_decide.2
    split at hc <;> split <;> omega
theorem sbVal_pk (u v : Int) (c : Bool) (u0 : 0 ≤ u) (u1 : u ≤ 99) (v0 : 0 ≤ v) (v1 : v ≤ 99) : sbVal (pk u) (pk v) c = pk ((u - v - (1 - oI c)) % 100) ∧ sbCar (pk u) (pk v) c = decide (0 ≤ u - v - (1 - oI c)) := by
  obtain ⟨a1, a2⟩ := pk_lo u u0 u1
  obtain ⟨b1, b2⟩ := pk_lo v v0 v1
  obtain ⟨o0, o1⟩ := oI_bd c
  have hn : ∀ c : Bool, oI (!c) = 1 - oI c := fun c => by cases c <;> rfl
  have hc : oI (sbC (u % 10) (v % 10) c) = if 1 - oI c ≤ u % 10 - v % 10 then 1 else 0 := by
    unfold sbC
    rw [hn c]
    by_cases h : 1 - oI c ≤ u % 10 - v % 10
    · rw [if_pos h, decide_eq_true h]; rfl
    · rw [if_neg h, decide_eq_false h]; rfl
  have hl : sbL (u % 10) (v % 10) c % 16 = (u % 10 - v % 10 - (1 - oI c)) % 10 := by unfold sbL; rw [hn c]; split <;> omega
  unfold sbVal sbCar
  rw [a1, a2, b1, b2, hl]
  obtain ⟨c1, e1⟩ : ∃ c1, sbC (u % 10) (v % 10) c = c1 := ⟨_, rfl⟩
  rw [e1] at hc ⊢
  unfold sbC sbL pk
  rw [hn c1]
  obtain ⟨r, hr⟩ : ∃ r, oI c1 = r := ⟨_, rfl⟩
  obtain ⟨o, ho⟩ : ∃ o, oI c = o := ⟨_, rfl⟩
  rw [hr] at hc ⊢
  rw [ho] at hc o0 o1 ⊢
  constructor
  · split at hc <;> split <;> omega
  · apply decide_eq_decide.2
    split at hc <;> omega
/-- Decimal digits, one byte's step. -/
theorem st_dec (sub : Bool) (u v p : Int) (u0 : 0 ≤ u) (u1 : u ≤ 99) (v0 : 0 ≤ v) (v1 : v ≤ 99) (p0 : 0 ≤ p) (p1 : p ≤ 255) (hD : flI p 8 = true) :
    stV sub (pk u) (pk v) p = pk ((if sub then u - v - (1 - oI (flI p 1)) else u + v + oI (flI p 1)) % 100) ∧
    flI (stP sub (pk u) (pk v) p) 1 = (if sub then decide (0 ≤ u - v - (1 - oI (flI p 1))) else decide (100 ≤ u + v + oI (flI p 1))) ∧ flI (stP sub (pk u) (pk v) p) 8 = true ∧ 0 ≤ stP sub (pk u) (pk v) p ∧ stP sub (pk u) (pk v) p ≤ 255 := by
  cases sub with
  | false =>
    obtain ⟨h1, h2⟩ := adVal_pk u v (flI p 1) u0 u1 v0 v1
    simp only [stV, stP, adV, adP, Bool.false_eq_true, if_false, hD, if_true]
    obtain ⟨f1, f2⟩ := flg_dec p (adVal (pk u) (pk v) (flI p 1)) (adCar (pk u) (pk v) (flI p 1)) p0 p1
    exact ⟨h1, by rw [f1, h2], by rw [f2, hD], flR_bd _ _⟩
  | true =>
    obtain ⟨h1, h2⟩ := sbVal_pk u v (flI p 1) u0 u1 v0 v1
    simp only [stV, stP, sbV, sbP, hD, if_true]
    obtain ⟨f1, f2⟩ := flg_dec p (sbVal (pk u) (pk v) (flI p 1)) (sbCar (pk u) (pk v) (flI p 1)) p0 p1
    exact ⟨h1, by rw [f1, h2], by rw [f2, hD], flR_bd _ _⟩
theorem qn_split (n : Int) (n0 : 0 ≤ n) (n1 : n ≤ 18446744073709551615) (k : Nat) : ∃ u, qn n k % 100 = u ∧ 0 ≤ u ∧ u ≤ 99 ∧ qn n k = 100 * qn n (k + 1) + u ∧ 0 ≤ qn n k ∧ dg n k = pk u := by
  have := qn_bd n n0 n1 k
  exact ⟨_, rfl, by omega, by omega, by simp only [qn]; omega, this.1, rfl⟩
theorem dec_add (m n p : Int) (m0 : 0 ≤ m) (m1 : m ≤ 4294967295) (n0 : 0 ≤ n) (n1 : n ≤ 4294967295) (p0 : 0 ≤ p) (p1 : p ≤ 255) (hD : flI p 8 = true) (k : Nat) :
    qn (m + n + oI (flI p 1)) k = qn m k + qn n k + oI (flI (lgP false (dg m) (dg n) p k) 1) ∧ flI (lgP false (dg m) (dg n) p k) 8 = true ∧ 0 ≤ lgP false (dg m) (dg n) p k ∧ lgP false (dg m) (dg n) p k ≤ 255 := by
  induction k with
  | zero => exact ⟨rfl, hD, p0, p1⟩
  | succ k ih =>
    obtain ⟨i1, i2, i3, i4⟩ := ih
    obtain ⟨u, _, u0, u1, hu, _, du⟩ := qn_split m m0 (by omega) k
    obtain ⟨v, _, v0, v1, hv, _, dv⟩ := qn_split n n0 (by omega) k
    obtain ⟨s1, s2, s3, s4, s5⟩ := st_dec false u v _ u0 u1 v0 v1 i3 i4 i2
    simp only [lgP]
    rw [du, dv]
    refine ⟨?_, s3, s4, s5⟩
    rw [s2]
    simp only [Bool.false_eq_true, if_false]
    show qn (m + n + oI (flI p 1)) k / 100 = _
    rw [i1]
    obtain ⟨o0, o1⟩ := oI_bd (flI (lgP false (dg m) (dg n) p k) 1)
    by_cases h : 100 ≤ u + v + oI (flI (lgP false (dg m) (dg n) p k) 1)
    · rw [decide_eq_true h]; simp only [oI, if_true] at *; omega
    · rw [decide_eq_false h]; simp only [oI, Bool.false_eq_true, if_false] at *; omega
theorem dec_add_v (m n p : Int) (m0 : 0 ≤ m) (m1 : m ≤ 4294967295) (n0 : 0 ≤ n) (n1 : n ≤ 4294967295) (p0 : 0 ≤ p) (p1 : p ≤ 255) (hD : flI p 8 = true) (k : Nat) :
    lgV false (dg m) (dg n) p k = dg (m + n + oI (flI p 1)) k := by
  obtain ⟨i1, i2, i3, i4⟩ := dec_add m n p m0 m1 n0 n1 p0 p1 hD k
  obtain ⟨u, _, u0, u1, hu, _, du⟩ := qn_split m m0 (by omega) k
  obtain ⟨v, _, v0, v1, hv, _, dv⟩ := qn_split n n0 (by omega) k
  obtain ⟨s1, _⟩ := st_dec false u v _ u0 u1 v0 v1 i3 i4 i2
  unfold lgV
  rw [du, dv, s1]
  simp only [Bool.false_eq_true, if_false]
  show _ = pk (qn (m + n + oI (flI p 1)) k % 100)
  rw [i1]
  congr 1
  omega
theorem qn5 (n : Int) : qn n 5 = n / 10000000000 := by
  simp only [qn]
  rw [Int.ediv_ediv_of_nonneg (by decide), Int.ediv_ediv_of_nonneg (by decide), Int.ediv_ediv_of_nonneg (by decide), Int.ediv_ediv_of_nonneg (by decide)]
  rfl
theorem dec_add_c (m n p : Int) (m0 : 0 ≤ m) (m1 : m ≤ 4294967295) (n0 : 0 ≤ n) (n1 : n ≤ 4294967295) (p0 : 0 ≤ p) (p1 : p ≤ 255) (hD : flI p 8 = true) : flI (lgP false (dg m) (dg n) p 5) 1 = false := by
  obtain ⟨i1, _⟩ := dec_add m n p m0 m1 n0 n1 p0 p1 hD 5
  obtain ⟨o0, o1⟩ := oI_bd (flI p 1)
  obtain ⟨o, ho⟩ : ∃ o, oI (flI p 1) = o := ⟨_, rfl⟩
  rw [ho] at i1 o0 o1
  rw [qn5, qn5, qn5] at i1
  cases h : flI (lgP false (dg m) (dg n) p 5) 1 with
  | false => rfl
  | true => rw [h, show oI true = 1 from rfl] at i1; omega
def tens : Nat → Int | 0 => 10000000000 | 1 => 100000000 | 2 => 1000000 | 3 => 10000 | 4 => 100 | _ => 1
theorem dec_sub (m n p : Int) (m0 : 0 ≤ m) (m1 : m ≤ 4294967295) (n0 : 0 ≤ n) (n1 : n ≤ 4294967295) (p0 : 0 ≤ p) (p1 : p ≤ 255) (hD : flI p 8 = true) (k : Nat) (hk : k ≤ 5) :
    qn (m + oI (flI p 1) + 10000000000 - n - 1) k = tens k + qn m k - qn n k - (1 - oI (flI (lgP true (dg m) (dg n) p k) 1)) ∧ flI (lgP true (dg m) (dg n) p k) 8 = true ∧ 0 ≤ lgP true (dg m) (dg n) p k ∧ lgP true (dg m) (dg n) p k ≤ 255 := by
  induction k with
  | zero => exact ⟨by simp only [qn, tens, lgP]; omega, hD, p0, p1⟩
  | succ k ih =>
    obtain ⟨i1, i2, i3, i4⟩ := ih (by omega)
    obtain ⟨u, _, u0, u1, hu, _, du⟩ := qn_split m m0 (by omega) k
    obtain ⟨v, _, v0, v1, hv, _, dv⟩ := qn_split n n0 (by omega) k
    obtain ⟨s1, s2, s3, s4, s5⟩ := st_dec true u v _ u0 u1 v0 v1 i3 i4 i2
    have ht : tens k = 100 * tens (k + 1) := by
      have : k = 0 ∨ k = 1 ∨ k = 2 ∨ k = 3 ∨ k = 4 := by omega
      rcases this with rfl | rfl | rfl | rfl | rfl <;> rfl
    simp only [lgP]
    rw [du, dv]
    refine ⟨?_, s3, s4, s5⟩
    rw [s2]
    simp only [if_true]
    show qn (m + oI (flI p 1) + 10000000000 - n - 1) k / 100 = _
    rw [i1, ht]
    obtain ⟨o0, o1⟩ := oI_bd (flI (lgP true (dg m) (dg n) p k) 1)
    by_cases h : 0 ≤ u - v - (1 - oI (flI (lgP true (dg m) (dg n) p k) 1))
    · rw [decide_eq_true h, show oI true = 1 from rfl]; omega
    · rw [decide_eq_false h, show oI false = 0 from rfl]; omega
theorem dec_sub_v (m n p : Int) (m0 : 0 ≤ m) (m1 : m ≤ 4294967295) (n0 : 0 ≤ n) (n1 : n ≤ 4294967295) (p0 : 0 ≤ p) (p1 : p ≤ 255) (hD : flI p 8 = true) (k : Nat) (hk : k < 5) :
    lgV true (dg m) (dg n) p k = dg (m + oI (flI p 1) + 10000000000 - n - 1) k := by
  obtain ⟨i1, i2, i3, i4⟩ := dec_sub m n p m0 m1 n0 n1 p0 p1 hD k (by omega)
  obtain ⟨u, _, u0, u1, hu, _, du⟩ := qn_split m m0 (by omega) k
  obtain ⟨v, _, v0, v1, hv, _, dv⟩ := qn_split n n0 (by omega) k
  obtain ⟨s1, _⟩ := st_dec true u v _ u0 u1 v0 v1 i3 i4 i2
  have ht : tens k = 100 * tens (k + 1) := by
    have : k = 0 ∨ k = 1 ∨ k = 2 ∨ k = 3 ∨ k = 4 := by omega
    rcases this with rfl | rfl | rfl | rfl | rfl <;> rfl
  unfold lgV
  rw [du, dv, s1]
  simp only [if_true]
  show _ = pk (qn (m + oI (flI p 1) + 10000000000 - n - 1) k % 100)
  rw [i1, ht]
  congr 1
  omega
theorem dec_sub_c (m n p : Int) (m0 : 0 ≤ m) (m1 : m ≤ 4294967295) (n0 : 0 ≤ n) (n1 : n ≤ 4294967295) (p0 : 0 ≤ p) (p1 : p ≤ 255) (hD : flI p 8 = true) :
    flI (lgP true (dg m) (dg n) p 5) 1 = decide (10000000000 ≤ m + oI (flI p 1) + 10000000000 - n - 1) := by
  obtain ⟨i1, _⟩ := dec_sub m n p m0 m1 n0 n1 p0 p1 hD 5 (by omega)
  obtain ⟨o0, o1⟩ := oI_bd (flI p 1)
  obtain ⟨o, ho⟩ : ∃ o, oI (flI p 1) = o := ⟨_, rfl⟩
  rw [ho] at i1 o0 o1 ⊢
  rw [qn5, qn5, qn5] at i1
  simp only [tens] at i1
  cases h : flI (lgP true (dg m) (dg n) p 5) 1 with
  | false => rw [h, show oI false = 0 from rfl] at i1; symm; apply decide_eq_false; omega
  | true => rw [h, show oI true = 1 from rfl] at i1; symm; apply decide_eq_true; omega
end Go.Proofs.Ytkmcfmflihkdjaa
