/-
  Texts of these proofs, one behind the other: Mod1, Mod2.
-/
import Derived.Test.YtdhnnegigjjoeaaDoorKMD03
import Derived.Test.YtdhnnegigjjoeaaDoorKMD13
import Derived.Test.YtdhnnegigjjoeaaDoorKMD14
import Derived.Test.YtdhnnegigjjoeaaDoorKMD05
namespace Go.Proofs.YtdhnnegigjjoeaaDoor
open Go.RowKit
set_option linter.unusedVariables false
set_option linter.unusedSimpArgs false
set_option maxRecDepth 100000
/-- How many bytes a mode has behind the first one; -1 where it is none. -/
def mbP (m : Nat) : Int := if m < 20 then bhP (m : Int) else -1
theorem modes_of (m : Nat) : m = 0 ∨ m = 1 ∨ m = 2 ∨ m = 3 ∨ m = 4 ∨ m = 5 ∨ m = 6 ∨ m = 7 ∨ m = 8 ∨ m = 9 ∨ m = 10 ∨ m = 11 ∨ m = 12 ∨ m = 13 ∨ m = 14 ∨ m = 15 ∨ m = 16 ∨ m = 17 ∨ m = 18 ∨ m = 19 ∨ 20 ≤ m := by omega
theorem mbP_hi (m : Nat) (h : 20 ≤ m) : mbP m = -1 := if_neg (by omega)
/-- What is added: x in the modes 3, 6, 14 and 16, y in 4, 7 and 10, else nothing. -/
def mixP (m : Nat) (x y : Int) : Int := if m = 3 ∨ m = 6 ∨ m = 14 ∨ m = 16 then x else if m = 4 ∨ m = 7 ∨ m = 10 then y else 0
theorem mixP_hi (m : Nat) (x y : Int) (h : 20 ≤ m) : mixP m x y = 0 := by unfold mixP; rw [if_neg (by omega), if_neg (by omega)]
set_option maxHeartbeats 8000000 in
theorem mbehind_any (m : Nat) (w : World) : Calls Tryd.prog 12 #[.int .u8 (m : Int)] w fun e w' => e = .returned (.int .i64 (mbP m)) ∧ w = w' := by
  rcases modes_of m with rfl | rfl | rfl | rfl | rfl | rfl | rfl | rfl | rfl | rfl | rfl | rfl | rfl | rfl | rfl | rfl | rfl | rfl | rfl | rfl | h
  case inr.inr.inr.inr.inr.inr.inr.inr.inr.inr.inr.inr.inr.inr.inr.inr.inr.inr.inr.inr =>
    rw [mbP_hi m h]
    have h0 : (20 : Int) ≤ m := by omega
    clear h
    go_enter Tryd.func12, Tryd.ntmps12
    go_wp2
    go_ret
    exact ⟨rfl, rfl⟩
  all_goals
    go_enter Tryd.func12, Tryd.ntmps12
    go_wp2
    go_ret
    exact ⟨rfl, rfl⟩
set_option maxHeartbeats 8000000 in
theorem mindex_any (m : Nat) (x y : Int) (w : World) : Calls Tryd.prog 31 #[.int .u8 (m : Int), .int .u8 x, .int .u8 y] w fun e w' => e = .returned (.int .u8 (mixP m x y)) ∧ w = w' := by
  rcases modes_of m with rfl | rfl | rfl | rfl | rfl | rfl | rfl | rfl | rfl | rfl | rfl | rfl | rfl | rfl | rfl | rfl | rfl | rfl | rfl | rfl | h
  case inr.inr.inr.inr.inr.inr.inr.inr.inr.inr.inr.inr.inr.inr.inr.inr.inr.inr.inr.inr =>
    rw [mixP_hi m x y h]
    have h0 : (20 : Int) ≤ m := by omega
    clear h
    go_enter Tryd.func31, Tryd.ntmps31
    go_wp2
    go_ret
    exact ⟨rfl, rfl⟩
  all_goals
    go_enter Tryd.func31, Tryd.ntmps31
    go_wp2
    go_ret
    exact ⟨rfl, rfl⟩
theorem mo_signed : ∀ b : Fin 256, wrap64 (IntKind.i8.wrap (b.val : Int)) = if (127 : Int) < (b.val : Int) then (b.val : Int) - 256 else b.val := by decide +kernel
theorem u16_mod (n : Int) : IntKind.u16.wrap n = n % 65536 := by simp [IntKind.wrap, IntKind.signed, IntKind.bits]
/-- Where a branch goes: from behind it, by a distance with its sign. -/
def tgtP (b d : Int) : Int := (b + (if 127 < d then d - 256 else d)) % 65536
set_option maxHeartbeats 4000000 in
theorem mtarget_any (b d : Int) (b0 : 0 ≤ b) (b1 : b ≤ 65535) (d0 : 0 ≤ d) (d1 : d ≤ 255) (w : World) : Calls Tryd.prog 14 #[.int .u16 b, .int .u8 d] w fun e w' => e = .returned (.int .u16 (tgtP b d)) ∧ w = w' := by
  obtain ⟨t, ht⟩ : ∃ t, tgtP b d = t := ⟨_, rfl⟩
  obtain ⟨s, hs⟩ : ∃ s, wrap64 (IntKind.i8.wrap d) = s := ⟨_, rfl⟩
  have e0 : IntKind.u16.wrap (b + IntKind.u16.wrap s) = t := by
    obtain ⟨n, rfl⟩ := Int.eq_ofNat_of_zero_le d0
    have hn : n < 256 := by omega
    have h := mo_signed ⟨n, hn⟩
    rw [← hs, ← ht]
    simp only [] at h
    rw [h, u16_mod, u16_mod]
    unfold tgtP
    obtain ⟨q, hq⟩ : ∃ q, (if (127 : Int) < (n : Int) then (n : Int) - 256 else n) = q := ⟨_, rfl⟩
    rw [hq]
    omega
  rw [ht]
  go_enter Tryd.func14, Tryd.ntmps14
  go_wp2_with (go_at_call 33; refine (signed_any _ _).mono ?_; rw [hs]; rintro e w' ⟨rfl, rfl⟩)
  go_ret
  exact ⟨rfl, rfl⟩
set_option maxHeartbeats 4000000 in
theorem rtarget_any (b d : Int) (b0 : 0 ≤ b) (b1 : b ≤ 65535) (d0 : 0 ≤ d) (d1 : d ≤ 255) (w : World) : Calls Tryd.prog 18 #[.int .u16 b, .int .u8 d] w fun e w' => e = .returned (.int .u16 (tgtP b d)) ∧ w = w' := by
  obtain ⟨s, hs⟩ : ∃ s, (if 127 < d then d - 256 else d) = s := ⟨_, rfl⟩
  have s0 : -128 ≤ s ∧ s ≤ 127 := by split at hs <;> omega
  unfold tgtP
  rw [hs]
  go_enter Tryd.func18, Tryd.ntmps18
  go_wp2_with (go_at_call 16; refine (rsigned_any _ _ d0 d1).mono ?_; rw [hs]; rintro e w' ⟨rfl, rfl⟩)
  go_ret
  exact ⟨by go_num, rfl⟩
set_option maxHeartbeats 4000000 in
theorem rmbehind_any (m : Nat) (hm : m < 256) (w : World) : Calls Tryd.prog 13 #[.int .u8 (m : Int)] w fun e w' => e = .returned (.int .i64 (mbP m)) ∧ Below w.heap.size w w' := by
  by_cases h : m < 20
  · have e1 : mbP m = bhP ((m % 20 : Nat) : Int) := by unfold mbP; rw [if_pos h, Nat.mod_eq_of_lt h]
    rw [e1]
    obtain ⟨r, hr⟩ : ∃ r, bhP ((m % 20 : Nat) : Int) = r := ⟨_, rfl⟩
    rw [hr]
    have h0 : (m : Int) < 20 := by omega
    go_enter Tryd.func13, Tryd.ntmps13
    go_wp2_with (go_at_call 32; refine (rbehind_any m hm _).mono ?_; rw [hr]; rintro e w' ⟨rfl, hb⟩)
    go_ret
    exact ⟨rfl, hb⟩
  · rw [mbP_hi m (by omega)]
    have h0 : (20 : Int) ≤ m := by omega
    go_enter Tryd.func13, Tryd.ntmps13
    go_wp2
    go_ret
    exact ⟨rfl, Below.refl _ _⟩
end Go.Proofs.YtdhnnegigjjoeaaDoor
namespace Go.Proofs.YtdhnnegigjjoeaaDoor
open Go.RowKit
set_option linter.unusedVariables false
set_option linter.unusedSimpArgs false
set_option maxRecDepth 100000
/-- The distance that a branch needs: the low byte of what lies between, if a branch by it arrives. -/
def mrcP (b t : Int) : Array Value := if tgtP b ((t - b) % 256) = t then #[.int .u8 ((t - b) % 256), .int .i64 0] else #[.int .u8 0, .int .i64 1]
set_option maxHeartbeats 4000000 in
theorem mreach_any (b t : Int) (b0 : 0 ≤ b) (b1 : b ≤ 65535) (t0 : 0 ≤ t) (t1 : t ≤ 65535) (w : World) : Calls Tryd.prog 15 #[.int .u16 b, .int .u16 t] w fun e w' => e = .returned (.tuple (mrcP b t)) ∧ w = w' := by
  obtain ⟨d, hd⟩ : ∃ d, (t - b) % 256 = d := ⟨_, rfl⟩
  have d0 : 0 ≤ d := by omega
  have d1 : d ≤ 255 := by omega
  have e0 : IntKind.u8.wrap (IntKind.u16.wrap (t - b)) = d := by rw [u16_mod, IntKind.wrap_u8]; omega
  obtain ⟨g, hg⟩ : ∃ g, tgtP b d = g := ⟨_, rfl⟩
  unfold mrcP
  rw [hd, hg]
  by_cases h : g = t
  · rw [if_pos h]
    subst h
    clear hd
    go_enter Tryd.func15, Tryd.ntmps15
    go_wp2_with (first
      | (go_at_call 34; refine (lo_any _ _).mono ?_; rw [e0]; rintro e w' ⟨rfl, rfl⟩)
      | (go_at_call 14; refine (mtarget_any _ _ b0 b1 d0 d1 _).mono ?_; rw [hg]; rintro e w' ⟨rfl, rfl⟩))
    go_ret2
    exact ⟨rfl, rfl⟩
  · rw [if_neg h]
    clear hd
    go_enter Tryd.func15, Tryd.ntmps15
    go_wp2_with (first
      | (go_at_call 34; refine (lo_any _ _).mono ?_; rw [e0]; rintro e w' ⟨rfl, rfl⟩)
      | (go_at_call 14; refine (mtarget_any _ _ b0 b1 d0 d1 _).mono ?_; rw [hg]; rintro e w' ⟨rfl, rfl⟩))
    go_ret2
    exact ⟨rfl, rfl⟩
/-- The byte of a mode that is a distance. -/
def dstP (m n : Nat) (z : Nat → Int) : Array Value := if (n : Int) = mbP m ∧ m = 11 then #[.int .u8 (z 0), .bool true] else if (n : Int) = mbP m ∧ m = 12 then #[.int .u8 (z 1), .bool true] else #[.int .u8 0, .bool false]
set_option maxHeartbeats 4000000 in
theorem mdist_any (m : Nat) (A : Option Addr) (n c : Nat) (z : Nat → Int) (hc : n ≤ c) (w : World) (R : IRow w .u8 A n z) : Calls Tryd.prog 17 #[.int .u8 (m : Int), .slice A n c] w fun e w' => e = .returned (.tuple (dstP m n z)) ∧ w = w' := by
  unfold dstP
  have hB := mbehind_any m
  obtain ⟨q, hq⟩ : ∃ q, mbP m = q := ⟨_, rfl⟩
  rw [hq] at hB ⊢
  have HQ := Lib.hid hq
  clear hq
  by_cases hn : (n : Int) = q
  · by_cases h11 : m = 11
    · subst h11
      obtain rfl : q = 1 := HQ.out.symm.trans (by decide)
      obtain rfl : n = 1 := by omega
      rw [if_pos ⟨rfl, rfl⟩]
      obtain ⟨ad, rfl, hl, hc0, hw⟩ := R 0 (by omega)
      have hc1 : w.cell? ad = some (.int .u8 (z 0)) := hc0
      clear hc0
      clear hn HQ
      go_enter Tryd.func17, Tryd.ntmps17
      go_wp2_with (go_at_call 12; refine (hB _).mono ?_; rintro e w' ⟨rfl, rfl⟩)
      go_ret2
      exact ⟨rfl, rfl⟩
    · by_cases h12 : m = 12
      · subst h12
        obtain rfl : q = 2 := HQ.out.symm.trans (by decide)
        obtain rfl : n = 2 := by omega
        rw [if_neg (by omega), if_pos ⟨rfl, rfl⟩]
        obtain ⟨ad, rfl, hl, hc0, hw⟩ := R 1 (by omega)
        have hc1 : w.cell? ⟨ad.block, ad.off + 1, none⟩ = some (.int .u8 (z 1)) := hc0
        clear hc0
        clear hn HQ h11
        go_enter Tryd.func17, Tryd.ntmps17
        go_wp2_with (go_at_call 12; refine (hB _).mono ?_; rintro e w' ⟨rfl, rfl⟩)
        go_ret2
        exact ⟨rfl, rfl⟩
      · rw [if_neg (by omega), if_neg (by omega)]
        have k1 : (m : Int) ≠ 11 := by omega
        have k2 : (m : Int) ≠ 12 := by omega
        clear HQ h11 h12
        go_enter Tryd.func17, Tryd.ntmps17
        go_wp2_with (go_at_call 12; refine (hB _).mono ?_; rintro e w' ⟨rfl, rfl⟩)
        go_ret2
        exact ⟨rfl, rfl⟩
  · rw [if_neg (by omega), if_neg (by omega)]
    clear HQ
    go_enter Tryd.func17, Tryd.ntmps17
    go_wp2_with (go_at_call 12; refine (hB _).mono ?_; rintro e w' ⟨rfl, rfl⟩)
    go_ret2
    exact ⟨rfl, rfl⟩
end Go.Proofs.YtdhnnegigjjoeaaDoor
