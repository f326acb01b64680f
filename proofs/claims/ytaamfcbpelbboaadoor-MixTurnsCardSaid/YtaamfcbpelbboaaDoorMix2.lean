/-
  Layer 16: the reference's Power (halved again and again) and Side.
-/
import Derived.Test.YtaamfcbpelbboaaDoorMix1
import Derived.Test.YtaamfcbpelbboaaDoorG18
import Derived.Test.YtaamfcbpelbboaaDoorNoi1
import Derived.Lib.Hide
namespace Go.Proofs.YtaamfcbpelbboaaDoor
open Go.RowKit
set_option linter.unusedVariables false
set_option linter.unusedSimpArgs false
set_option maxRecDepth 100000
theorem rpower_any (l : Int) (w : World) : Calls Tryd.prog 13 #[.int .i64 l] w fun e w' => e = .returned (.int .i64 (pwr l)) ∧ Below w.heap.size w w' := by
  unfold pwr
  have hB : Below w.heap.size w (w.alloc (.cells #[.int .i64 4096, .int .i64 3444, .int .i64 2896, .int .i64 2435] 57)) := (Below.refl _ _).alloc (Nat.le_refl _) _
  have HB := Lib.hid hB
  clear hB
  by_cases h1 : l < 0
  · rw [if_pos h1]
    go_enter Tryd.func13, Tryd.ntmps13
    go_wp2
    go_ret
    exact ⟨rfl, HB.out⟩
  by_cases h2 : 48 ≤ l
  · rw [if_neg h1, if_pos h2]
    go_enter Tryd.func13, Tryd.ntmps13
    go_wp2
    go_ret
    exact ⟨rfl, HB.out⟩
  rw [if_neg h1, if_neg h2]
  obtain ⟨k, rfl⟩ := Int.eq_ofNat_of_zero_le (show 0 ≤ l by omega)
  rw [show ((k : Int)).toNat = k from rfl]
  have hb : Blk (w.alloc (.cells #[.int .i64 4096, .int .i64 3444, .int .i64 2896, .int .i64 2435] 57)) w.heap.size 57 #[.int .i64 4096, .int .i64 3444, .int .i64 2896, .int .i64 2435] := Blk.new w _ _
  have hc : (w.alloc (.cells #[.int .i64 4096, .int .i64 3444, .int .i64 2896, .int .i64 2435] 57)).cell? ⟨w.heap.size, k % 4, none⟩ = some (.int .i64 (pw (k % 4))) := by
    rw [hb.cell]
    have : k % 4 = 0 ∨ k % 4 = 1 ∨ k % 4 = 2 ∨ k % 4 = 3 := by omega
    rcases this with e | e | e | e <;> rw [e] <;> rfl
  clear hb
  go_enter Tryd.func13, Tryd.ntmps13
  go_wp2
  obtain ⟨p0, p1⟩ := pw_bd (k % 4)
  go_loop [4, 5] (fun n i => ∃ j : Nat, j ≤ k / 4 ∧ i = .int .i64 j ∧ n = .int .i64 (pw (k % 4) / 2 ^ j)) (fun _ i => k - (intOf i).toNat)
  case atStart => exact ⟨0, by omega, rfl, by simp⟩
  case round =>
    obtain ⟨j, hj, rfl, rfl⟩ := hrel
    obtain ⟨u0, u1⟩ := pwh_bd (k % 4) j
    have hu := pw_half (pw (k % 4)) j
    obtain ⟨u, hue⟩ : ∃ u, pw (k % 4) / 2 ^ j = u := ⟨_, rfl⟩
    rw [hue] at u0 u1 hu ⊢
    by_cases hlt : j < k / 4
    · have i1 : (j : Int) < (k : Int) / 4 := by omega
      go_wp2
      go_round
      case rel => exact ⟨j + 1, by omega, by go_num, by rw [hu]⟩
      case measure => simp [intOf]; omega
    · have i1 : ¬ (j : Int) < (k : Int) / 4 := by omega
      have : j = k / 4 := by omega
      go_wp2
      go_ret
      rw [← hue, this]
      exact ⟨rfl, HB.out⟩
theorem side_any (l v b m : Int) (l0 : 0 ≤ l) (l1 : l ≤ 255) (v0 : 0 ≤ v) (v1 : v ≤ 255) (b0 : 0 ≤ b) (b1 : b ≤ 255) (m0 : 0 ≤ m) (m1 : m ≤ 255) (w : World) : Calls Tryd.prog 24 #[.int .u8 l, .int .u8 v, .int .u8 b, .int .u8 m] w fun e w' => e = .returned (.int .i64 (sideOf l v b m)) ∧ Below w.heap.size w w' := by
  have hw := side_bd l v b m
  unfold sideOf at hw ⊢
  obtain ⟨p, hp⟩ : ∃ p, pwr (lssOf v b m) = p := ⟨_, rfl⟩
  have hb := pwr_bd (lssOf v b m)
  rw [hp] at hw hb ⊢
  obtain ⟨t, ht⟩ : ∃ t, (2 * (l % 32) - 31) * p = t := ⟨_, rfl⟩
  rw [ht] at hw ⊢
  have HP := Lib.hid hp
  clear hp
  go_enter Tryd.func24, Tryd.ntmps24
  go_wp2_with fail
  refine (rloss_any v b m v0 v1 b0 b1 m0 m1 _).mono ?_
  rintro e w' ⟨rfl, rfl⟩
  go_wp2_with fail
  refine (rpower_any _ _).mono ?_
  rw [HP.out]
  rintro e w' ⟨rfl, hB⟩
  have HB := Lib.hid hB
  clear hB
  go_wp2
  go_ret
  exact ⟨rfl, HB.out⟩
end Go.Proofs.YtaamfcbpelbboaaDoor
