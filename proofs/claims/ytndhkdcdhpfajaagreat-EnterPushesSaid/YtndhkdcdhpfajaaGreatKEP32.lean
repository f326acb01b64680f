/-
  Texts of these proofs, one behind the other: Flg3, Flg4.
-/
import Derived.Test.YtndhkdcdhpfajaaGreatKEP31
import Derived.Test.YtndhkdcdhpfajaaGreatKEP23
import Derived.Laws.Strings
import Derived.WideShapes
namespace Go.Proofs.YtndhkdcdhpfajaaGreat
open Go.RowKit
set_option linter.unusedVariables false
set_option linter.unusedSimpArgs false
set_option maxRecDepth 100000
theorem fv_of (b : Int) (h0 : 0 ≤ b) (h1 : b ≤ 255) : ∃ x : BitVec 8, b = (x.toNat : Int) := by
  obtain ⟨n, rfl⟩ := Int.eq_ofNat_of_zero_le h0
  exact ⟨BitVec.ofNat 8 n, by simp; omega⟩
theorem fv_bit_all : ∀ n : Nat, n < 256 → ∀ i : Nat, i < 8 → rbit (n : Int) (i : Int) = (BitVec.ofNat 8 n).getLsbD i := by decide +kernel
theorem fv_bit (x : BitVec 8) (i : Nat) (hi : i < 8) : rbit (x.toNat : Int) (i : Int) = x.getLsbD i := by
  rw [fv_bit_all x.toNat x.isLt i hi, BitVec.ofNat_toNat, BitVec.setWidth_eq]
theorem fv_wrap (x : BitVec 8) : IntKind.u8.wrap (x.toNat : Int) = (x.toNat : Int) := by
  rw [IntKind.wrap_u8]
  have := x.isLt
  omega
theorem fv_ofInt (x : BitVec 8) : BitVec.ofInt 8 (x.toNat : Int) = x := by
  apply BitVec.eq_of_toNat_eq
  rw [BitVec.toNat_ofInt]
  have := x.isLt
  omega
theorem fv_or (v m : BitVec 8) : bits .or .u8 (v.toNat : Int) (m.toNat : Int) = ((v ||| m).toNat : Int) := by
  show IntKind.u8.wrap (((BitVec.ofInt 8 (v.toNat : Int)) ||| (BitVec.ofInt 8 (m.toNat : Int))).toNat : Int) = _
  rw [fv_ofInt, fv_ofInt, fv_wrap]
theorem fv_and (v m : BitVec 8) : bits .and .u8 (v.toNat : Int) (m.toNat : Int) = ((v &&& m).toNat : Int) := by
  show IntKind.u8.wrap (((BitVec.ofInt 8 (v.toNat : Int)) &&& (BitVec.ofInt 8 (m.toNat : Int))).toNat : Int) = _
  rw [fv_ofInt, fv_ofInt, fv_wrap]
theorem fv_andNot (v m : BitVec 8) : bits .andNot .u8 (v.toNat : Int) (m.toNat : Int) = ((v &&& ~~~m).toNat : Int) := by
  show IntKind.u8.wrap (((BitVec.ofInt 8 (v.toNat : Int)) &&& ~~~(BitVec.ofInt 8 (m.toNat : Int))).toNat : Int) = _
  rw [fv_ofInt, fv_ofInt, fv_wrap]
/-- Bytes whose bits are alike are alike. -/
theorem byte_ext (a b : Int) (a0 : 0 ≤ a) (a1 : a ≤ 255) (b0 : 0 ≤ b) (b1 : b ≤ 255) (h : ∀ i : Nat, i < 8 → rbit a i = rbit b i) : a = b := by
  obtain ⟨x, rfl⟩ := fv_of a a0 a1
  obtain ⟨y, rfl⟩ := fv_of b b0 b1
  congr 1
  apply congrArg
  apply BitVec.eq_of_getLsbD_eq
  intro i hi
  rw [← fv_bit x i hi, ← fv_bit y i hi]
  exact h i hi
theorem flS_bd (p m : Int) (on : Bool) : 0 ≤ flS p m on ∧ flS p m on ≤ 255 := by
  unfold flS
  split
  · exact ⟨bits_lo_u8 _ _ _, bits_hi_u8 _ _ _⟩
  · exact ⟨bits_lo_u8 _ _ _, bits_hi_u8 _ _ _⟩
theorem flS_bit (p m : Int) (on : Bool) (p0 : 0 ≤ p) (p1 : p ≤ 255) (m0 : 0 ≤ m) (m1 : m ≤ 255) (i : Nat) (hi : i < 8) : rbit (flS p m on) i = if rbit m i then on else rbit p i := by
  obtain ⟨x, rfl⟩ := fv_of p p0 p1
  obtain ⟨y, rfl⟩ := fv_of m m0 m1
  unfold flS
  cases on
  · rw [if_neg (by decide), fv_andNot, fv_bit _ i hi, fv_bit _ i hi, fv_bit _ i hi, BitVec.getLsbD_and, BitVec.getLsbD_not]
    cases x.getLsbD i <;> cases y.getLsbD i <;> simp [hi]
  · rw [if_pos rfl, fv_or, fv_bit _ i hi, fv_bit _ i hi, fv_bit _ i hi, BitVec.getLsbD_or]
    cases x.getLsbD i <;> cases y.getLsbD i <;> simp
theorem rwith_bd (b n : Int) (on : Bool) (b0 : 0 ≤ b) (b1 : b ≤ 255) : 0 ≤ rwith b n on ∧ rwith b n on ≤ 255 := by
  unfold rwith
  split
  · exact ofTo_255 _ 8 (by decide)
  · exact ⟨b0, b1⟩
theorem rwith_bit_fin : ∀ b : Fin 256, ∀ n : Fin 8, ∀ on : Bool, ∀ i : Fin 8, rbit (rwith (b.val : Int) (n.val : Int) on) (i.val : Int) = if i = n then on else rbit (b.val : Int) (i.val : Int) := by decide +kernel
theorem rwith_bit (b : Int) (n : Nat) (on : Bool) (i : Nat) (b0 : 0 ≤ b) (b1 : b ≤ 255) (hn : n < 8) (hi : i < 8) : rbit (rwith b n on) i = if i = n then on else rbit b i := by
  have := rwith_bit_fin ⟨b.toNat, by omega⟩ ⟨n, hn⟩ on ⟨i, hi⟩
  rw [show ((⟨b.toNat, by omega⟩ : Fin 256).val : Int) = b by simp; omega] at this
  rw [this]
  by_cases e : i = n
  · subst e; rw [if_pos rfl, if_pos rfl]
  · rw [if_neg (by simpa using e), if_neg e]
/-- What the answer makes of p, bit by bit, up to one. -/
def wk (p m : Int) (on : Bool) : Nat → Int
  | 0 => p
  | k + 1 => if rbit m k then rwith (wk p m on k) k on else wk p m on k
theorem wk_bd (p m : Int) (on : Bool) (p0 : 0 ≤ p) (p1 : p ≤ 255) (k : Nat) : 0 ≤ wk p m on k ∧ wk p m on k ≤ 255 := by
  induction k with
  | zero => exact ⟨p0, p1⟩
  | succ k ih =>
    simp only [wk]
    split
    · exact rwith_bd _ _ _ ih.1 ih.2
    · exact ih
theorem wk_bit (p m : Int) (on : Bool) (p0 : 0 ≤ p) (p1 : p ≤ 255) (k : Nat) (hk : k ≤ 8) (i : Nat) (hi : i < 8) : rbit (wk p m on k) i = if i < k ∧ rbit m i = true then on else rbit p i := by
  induction k with
  | zero => rw [if_neg (by omega)]; rfl
  | succ k ih =>
    have ih := ih (by omega)
    obtain ⟨b0, b1⟩ := wk_bd p m on p0 p1 k
    simp only [wk]
    by_cases hb : rbit m k = true
    · rw [if_pos hb, rwith_bit _ k on i b0 b1 (by omega) hi]
      by_cases e : i = k
      · subst e; rw [if_pos rfl, if_pos ⟨by omega, hb⟩]
      · rw [if_neg e, ih]
        by_cases c : i < k ∧ rbit m i = true
        · rw [if_pos c, if_pos ⟨by omega, c.2⟩]
        · rw [if_neg c, if_neg (by rintro ⟨c1, c2⟩; exact c ⟨by omega, c2⟩)]
    · rw [if_neg hb, ih]
      by_cases c : i < k ∧ rbit m i = true
      · rw [if_pos c, if_pos ⟨by omega, c.2⟩]
      · rw [if_neg c, if_neg (by rintro ⟨c1, c2⟩; by_cases e : i = k; (subst e; exact hb c2); exact c ⟨by omega, c2⟩)]
theorem wk_all (p m : Int) (on : Bool) (p0 : 0 ≤ p) (p1 : p ≤ 255) (m0 : 0 ≤ m) (m1 : m ≤ 255) : wk p m on 8 = flS p m on := by
  obtain ⟨b0, b1⟩ := wk_bd p m on p0 p1 8
  obtain ⟨c0, c1⟩ := flS_bd p m on
  refine byte_ext _ _ b0 b1 c0 c1 fun i hi => ?_
  rw [wk_bit p m on p0 p1 8 (by omega) i hi, flS_bit p m on p0 p1 m0 m1 i hi]
  by_cases c : rbit m i = true
  · rw [if_pos ⟨hi, c⟩, if_pos c]
  · rw [if_neg (by rintro ⟨_, c2⟩; exact c c2), if_neg c]
/-- Is one of the mask's bits, up to one, set? -/
def sk (p m : Int) : Nat → Bool
  | 0 => false
  | k + 1 => if rbit m k then sk p m k || rbit p k else sk p m k
theorem sk_iff (p m : Int) (k : Nat) : sk p m k = true ↔ ∃ i, i < k ∧ rbit m i = true ∧ rbit p i = true := by
  induction k with
  | zero => simp [sk]
  | succ k ih =>
    simp only [sk]
    constructor
    · intro h
      split at h
      · simp only [Bool.or_eq_true] at h
        rcases h with h1 | h1
        · obtain ⟨i, hi, a, b⟩ := ih.1 h1; exact ⟨i, by omega, a, b⟩
        · exact ⟨k, by omega, ‹_›, h1⟩
      · obtain ⟨i, hi, a, b⟩ := ih.1 h; exact ⟨i, by omega, a, b⟩
    · rintro ⟨i, hi, a, b⟩
      by_cases e : i = k
      · subst e; rw [if_pos a, b]; simp
      · have := ih.2 ⟨i, by omega, a, b⟩
        rw [this]; split <;> simp
theorem sk_all (p m : Int) (p0 : 0 ≤ p) (p1 : p ≤ 255) (m0 : 0 ≤ m) (m1 : m ≤ 255) : sk p m 8 = flI p m := by
  obtain ⟨x, rfl⟩ := fv_of p p0 p1
  obtain ⟨y, rfl⟩ := fv_of m m0 m1
  unfold flI
  rw [fv_and]
  apply Bool.eq_iff_iff.2
  rw [sk_iff]
  constructor
  · rintro ⟨i, hi, a, b⟩
    rw [fv_bit _ i hi] at a b
    have h : (x &&& y).getLsbD i = true := by rw [BitVec.getLsbD_and, a, b]; rfl
    simp only [bne_iff_ne, ne_eq]
    intro e
    have e2 : (x &&& y) = 0#8 := BitVec.eq_of_toNat_eq (by simpa using e)
    rw [e2] at h
    simp at h
  · intro h
    simp only [bne_iff_ne, ne_eq] at h
    apply Classical.byContradiction
    intro hn
    apply h
    have e2 : (x &&& y) = 0#8 := by
      apply BitVec.eq_of_getLsbD_eq
      intro i hi
      rw [BitVec.getLsbD_and, BitVec.getLsbD_zero]
      cases a : x.getLsbD i <;> cases b : y.getLsbD i <;> try rfl
      exact absurd ⟨i, hi, by rw [fv_bit _ i hi]; exact b, by rw [fv_bit _ i hi]; exact a⟩ hn
    rw [e2]; rfl
theorem flS_rwith_fin : ∀ p : Fin 256, ∀ on : Bool, flS (p.val : Int) 128 on = rwith (p.val : Int) 7 on ∧ flS (p.val : Int) 32 on = rwith (p.val : Int) 5 on ∧ flS (p.val : Int) 16 on = rwith (p.val : Int) 4 on ∧ flS (p.val : Int) 2 on = rwith (p.val : Int) 1 on := by decide +kernel
theorem flS_rwith (p : Int) (on : Bool) (p0 : 0 ≤ p) (p1 : p ≤ 255) : flS p 128 on = rwith p 7 on ∧ flS p 32 on = rwith p 5 on ∧ flS p 16 on = rwith p 4 on ∧ flS p 2 on = rwith p 1 on := by
  have := flS_rwith_fin ⟨p.toNat, by omega⟩ on
  rwa [show ((⟨p.toNat, by omega⟩ : Fin 256).val : Int) = p by simp; omega] at this
theorem entered_fin : ∀ p : Fin 256, flS (flS (p.val : Int) 4 true) 56 false = rwith (rwith (rwith (rwith (p.val : Int) 2 true) 4 false) 3 false) 5 false := by decide +kernel
theorem entered_eq (p : Int) (p0 : 0 ≤ p) (p1 : p ≤ 255) : flS (flS p 4 true) 56 false = rwith (rwith (rwith (rwith p 2 true) 4 false) 3 false) 5 false := by
  have := entered_fin ⟨p.toNat, by omega⟩
  rwa [show ((⟨p.toNat, by omega⟩ : Fin 256).val : Int) = p by simp; omega] at this
theorem pull_fin : ∀ p : Fin 256, ∀ on : Bool, flS (flS (flS (p.val : Int) 32 false) 16 on) 16 false = rwith (rwith (p.val : Int) 5 false) 4 false := by decide +kernel
theorem pull_eq (p : Int) (on : Bool) (p0 : 0 ≤ p) (p1 : p ≤ 255) : flS (flS (flS p 32 false) 16 on) 16 false = rwith (rwith p 5 false) 4 false := by
  have := pull_fin ⟨p.toNat, by omega⟩ on
  rwa [show ((⟨p.toNat, by omega⟩ : Fin 256).val : Int) = p by simp; omega] at this
theorem flB_fin : ∀ p : Fin 256, flB (flF (p.val : Int)) = (p.val : Int) := by decide +kernel
theorem flB_eq (p : Int) (p0 : 0 ≤ p) (p1 : p ≤ 255) : flB (flF p) = p := by
  have := flB_fin ⟨p.toNat, by omega⟩
  rwa [show ((⟨p.toNat, by omega⟩ : Fin 256).val : Int) = p by simp; omega] at this
theorem bit7_rbit_fin : ∀ v : Fin 256, bitB (v.val : Int) 7 = decide (128 ≤ (v.val : Int)) := by decide +kernel
theorem fbit7 (v : Int) (v0 : 0 ≤ v) (v1 : v ≤ 255) : bitB v 7 = decide (128 ≤ v) := by
  have := bit7_rbit_fin ⟨v.toNat, by omega⟩
  rwa [show ((⟨v.toNat, by omega⟩ : Fin 256).val : Int) = v by simp; omega] at this
theorem flI32_fin : ∀ p : Fin 256, flI (p.val : Int) 32 = rbit (p.val : Int) 5 := by decide +kernel
theorem flI32 (p : Int) (p0 : 0 ≤ p) (p1 : p ≤ 255) : flI p 32 = rbit p 5 := by
  have := flI32_fin ⟨p.toNat, by omega⟩
  rwa [show ((⟨p.toNat, by omega⟩ : Fin 256).val : Int) = p by simp; omega] at this
/-- The answer's Set. -/
theorem rfset_any (p n : Int) (on : Bool) (w : World) (p0 : 0 ≤ p) (p1 : p ≤ 255) : Calls Tryz.prog 151 #[.int .u8 p, .int .i64 n, .bool on] w fun e w' => e = .returned (.int .u8 (rwith p n on)) ∧ Below w.heap.size w w' := by
  go_enter Tryz.func151, Tryz.ntmps151
  go_wp2_with fail
  refine (rwith_any _ _ _ _ p0 p1).mono ?_
  rintro e w1 ⟨rfl, b1⟩
  go_wp2_with fail
  go_ret
  exact ⟨rfl, b1⟩
end Go.Proofs.YtndhkdcdhpfajaaGreat
namespace Go.Proofs.YtndhkdcdhpfajaaGreat
open Go.RowKit
set_option linter.unusedVariables false
set_option linter.unusedSimpArgs false
set_option maxRecDepth 100000
section
variable {p : Int} (w : World) (p0 : 0 ≤ p) (p1 : p ≤ 255)
include p0 p1
theorem rfpushed_any (on : Bool) : Calls Tryz.prog 98 #[.int .u8 p, .bool on] w fun e w' => e = .returned (.int .u8 (rwith (rwith p 5 false) 4 on)) ∧ Below w.heap.size w w' := by
  obtain ⟨a0, a1⟩ := rwith_bd p 5 false p0 p1
  go_enter Tryz.func98, Tryz.ntmps98
  go_wp2_with fail
  refine (rfset_any _ _ _ _ p0 p1).mono ?_
  rintro e w1 ⟨rfl, b1⟩
  go_wp2_with fail
  refine (rfset_any _ _ _ _ a0 a1).mono ?_
  rintro e w2 ⟨rfl, b2⟩
  have B2 := Lib.hid (b1.trans (b2.mono b1.size))
  clear b1 b2
  go_wp2_with fail
  go_ret
  exact ⟨rfl, B2.out⟩
theorem rfentered_any : Calls Tryz.prog 101 #[.int .u8 p] w fun e w' => e = .returned (.int .u8 (rwith (rwith (rwith (rwith p 2 true) 4 false) 3 false) 5 false)) ∧ Below w.heap.size w w' := by
  obtain ⟨a0, a1⟩ := rwith_bd p 2 true p0 p1
  obtain ⟨c0, c1⟩ := rwith_bd (rwith p 2 true) 4 false a0 a1
  obtain ⟨d0, d1⟩ := rwith_bd (rwith (rwith p 2 true) 4 false) 3 false c0 c1
  go_enter Tryz.func101, Tryz.ntmps101
  go_wp2_with fail
  refine (rfset_any _ _ _ _ p0 p1).mono ?_
  rintro e w1 ⟨rfl, b1⟩
  go_wp2_with fail
  refine (rfset_any _ _ _ _ a0 a1).mono ?_
  rintro e w2 ⟨rfl, b2⟩
  have B2 := b1.trans (b2.mono b1.size)
  clear b1 b2
  go_wp2_with fail
  refine (rfset_any _ _ _ _ c0 c1).mono ?_
  rintro e w3 ⟨rfl, b3⟩
  have B3 := B2.trans (b3.mono B2.size)
  clear b3 B2
  go_wp2_with fail
  refine (rfset_any _ _ _ _ d0 d1).mono ?_
  rintro e w4 ⟨rfl, b4⟩
  have B4 := Lib.hid (B3.trans (b4.mono B3.size))
  clear b4 B3
  go_wp2_with fail
  go_ret
  exact ⟨rfl, B4.out⟩
end
/-- Has a text this letter at its place? -/
def hl (s : ByteArray) (k : Nat) : Bool := if h : k < s.size then ((s[k].toNat : Int) == ltr k) else false
/-- The flags whose letters a text has. -/
def rk (s : ByteArray) : Nat → Int
  | 0 => 0
  | k + 1 => withI (rk s k) (7 - (k : Int)) (hl s k)
def rdI (s : ByteArray) : Int × Int := if strOfNums (tx (flF (rk s 8)) 8) = s then (rk s 8, 0) else (0, 3)
theorem withI_bd (b n : Int) (on : Bool) : 0 ≤ withI b n on ∧ withI b n on ≤ 255 := by
  unfold withI
  split
  · exact ⟨bits_lo_u8 _ _ _, bits_hi_u8 _ _ _⟩
  · exact ⟨bits_lo_u8 _ _ _, bits_hi_u8 _ _ _⟩
theorem rk_bd (s : ByteArray) (k : Nat) : 0 ≤ rk s k ∧ rk s k ≤ 255 := by
  cases k with
  | zero => simp [rk]
  | succ k => exact withI_bd _ _ _
theorem rk_text_fin : ∀ p : Fin 256, rk (strOfNums (tx (flF (p.val : Int)) 8)) 8 = (p.val : Int) := by decide +kernel
theorem rk_text (p : Int) (p0 : 0 ≤ p) (p1 : p ≤ 255) : rk (strOfNums (tx (flF p) 8)) 8 = p := by
  have := rk_text_fin ⟨p.toNat, by omega⟩
  rwa [show ((⟨p.toNat, by omega⟩ : Fin 256).val : Int) = p by simp; omega] at this
theorem rdI_of (p : Int) (p0 : 0 ≤ p) (p1 : p ≤ 255) : rdI (strOfNums (tx (flF p) 8)) = (p, 0) := by
  unfold rdI
  rw [rk_text p p0 p1, if_pos rfl]
theorem ba_ne {t s : ByteArray} (h : ¬ t = s) : (t.toList == s.toList) = false := by
  rw [ByteArray.toList_eq, ByteArray.toList_eq]
  cases e : (t.data.toList == s.data.toList) with
  | false => rfl
  | true => exact absurd (Go.WideShapes.bytes_inj (by simpa using e)) h
theorem ba_eq (t : ByteArray) : (t.toList == t.toList) = true := by simp
end Go.Proofs.YtndhkdcdhpfajaaGreat
