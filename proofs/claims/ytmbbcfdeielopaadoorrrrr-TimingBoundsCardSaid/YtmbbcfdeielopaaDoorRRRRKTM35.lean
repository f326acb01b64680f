/-
  Texts of these proofs, one behind the other: Rtm1.
-/
import Derived.Test.YtmbbcfdeielopaaDoorRRRRKTM11
import Derived.Test.YtmbbcfdeielopaaDoorRRRRKTM34
namespace Go.Proofs.YtmbbcfdeielopaaDoorRRRR
open Go.RowKit
set_option linter.unusedVariables false
set_option linter.unusedSimpArgs false
set_option maxRecDepth 100000
set_option maxHeartbeats 4000000 in
theorem rin29_any (s S : ByteArray) (cs : List (List UInt8)) (n : Nat) (hn : cs.length = n) (n0 : n ≤ 100) (hS : S.size + 1 = 4 * n) (hc : ∀ k, k < n → S.extract (4 * k) (4 * k + 3) = mkS (cs.getD k [])) (w : World) :
    Calls Tryd.prog 29 #[.string s, .string S] w fun e w' => e = .returned (.bool (inL s.toList cs)) ∧ w = w' := by
  have HY := Lib.hid (fun (k : Nat) => @inL_yes s.toList cs k)
  have HN := Lib.hid (@inL_none s.toList cs)
  rw [hn] at HY HN
  obtain ⟨R, hR⟩ : ∃ R, inL s.toList cs = R := ⟨_, rfl⟩
  rw [hR] at HY HN ⊢
  have HC := Lib.hid hc
  clear hc hR hn
  go_enter Tryd.func29, Tryd.ntmps29
  go_wp2
  go_loopw [5] (fun i wr => ∃ k : Nat, k ≤ n ∧ i = .int .i64 (4 * (k : Int)) ∧ w = wr ∧ ∀ j, j < k → (cs.getD j [] == s.toList) = false) (fun i _ => 4 * n - (intOf i).toNat)
  case atStart => exact ⟨0, by omega, rfl, rfl, fun j h => by omega⟩
  case round =>
    obtain ⟨k, hk, rfl, rfl, hp⟩ := hrel
    have HP := Lib.hid hp
    clear hp
    rcases Nat.lt_or_ge k n with hl | hl
    · have hx := HC.out k hl
      obtain ⟨X, hX⟩ : ∃ X, mkS (cs.getD k []) = X := ⟨_, rfl⟩
      have hXl : X.toList = cs.getD k [] := by rw [← hX, mkS_toList]
      rw [hX] at hx
      clear hX
      have k0 : (0 : Int) ≤ 4 * (k : Int) := by omega
      have k1 : 4 * (k : Int) + 3 ≤ S.size := by omega
      have k2 : (4 * (k : Int)).toNat = 4 * k := by omega
      have k3 : (4 * (k : Int) + 3).toNat = 4 * k + 3 := by omega
      have k4 : IntKind.i64.wrap (4 * (k : Int) + 3) = 4 * k + 3 := IntWalk.i64_in _ (by omega)
      have k5 : IntKind.i64.wrap (4 * (k : Int) + 4) = 4 * k + 4 := IntWalk.i64_in _ (by omega)
      have HXL := Lib.hid hXl
      clear hXl
      obtain ⟨z, hz⟩ : ∃ z, (X.toList == s.toList) = z := ⟨_, rfl⟩
      have HZ := Lib.hid hz
      cases z with
      | true =>
        obtain rfl : R = true := HY.out k hl (by rw [← HXL.out]; exact HZ.out)
        go_wp2
        go_ret
        exact ⟨rfl, rfl⟩
      | false =>
        go_wp2
        go_roundw
        case rel => exact ⟨k + 1, by omega, by first | rfl | (congr 1; omega), by trivial, fun j hj => (Nat.lt_succ_iff_lt_or_eq.1 hj).elim (HP.out j) fun e => by subst e; rw [← HXL.out]; exact HZ.out⟩
        case measure => simp [intOf]; omega
    · obtain rfl : k = n := by omega
      have k1 : ¬ 4 * (k : Int) + 3 ≤ S.size := by omega
      have k4 : IntKind.i64.wrap (4 * (k : Int) + 3) = 4 * k + 3 := IntWalk.i64_in _ (by omega)
      obtain rfl : R = false := HN.out HP.out
      go_wp2
      go_ret
      exact ⟨rfl, rfl⟩
def rwyL (m : Nat) : List UInt8 := if 8 ≤ m ∧ m ≤ 10 then [68, 76, 76, 68] else [68]
theorem rways_any (m : Nat) (w : World) : Calls Tryd.prog 61 #[.int .u8 (m : Int)] w fun e w' => e = .returned (.string (mkS (rwyL m))) ∧ w = w' := by
  by_cases h1 : 8 ≤ m
  · have h1' : (8 : Int) ≤ m := by omega
    by_cases h2 : m ≤ 10
    · have h2' : (m : Int) ≤ 10 := by omega
      rw [show rwyL m = [68, 76, 76, 68] from if_pos ⟨h1, h2⟩]
      clear h1 h2
      go_enter Tryd.func61, Tryd.ntmps61
      go_wp2
      go_ret
      exact ⟨rfl, rfl⟩
    · have h2' : ¬ (m : Int) ≤ 10 := by omega
      rw [show rwyL m = [68] from if_neg (by omega)]
      clear h1 h2
      go_enter Tryd.func61, Tryd.ntmps61
      go_wp2
      go_ret
      exact ⟨rfl, rfl⟩
  · have h1' : ¬ (8 : Int) ≤ m := by omega
    rw [show rwyL m = [68] from if_neg (by omega)]
    clear h1
    go_enter Tryd.func61, Tryd.ntmps61
    go_wp2
    go_ret
    exact ⟨rfl, rfl⟩
end Go.Proofs.YtmbbcfdeielopaaDoorRRRR
