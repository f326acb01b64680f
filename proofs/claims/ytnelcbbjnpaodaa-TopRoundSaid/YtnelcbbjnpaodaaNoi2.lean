/-
  Noise: matrices of 18 states; many steps at once.
-/
import Derived.Test.YtnelcbbjnpaodaaNoi1
import Derived.Test.YtnelcbbjnpaodaaG12
import Derived.Test.YtnelcbbjnpaodaaG18
import Derived.Deep.LoopGhost
import Derived.IntWalk
namespace Go.Proofs.Ytnelcbbjnpaodaa
open Go.RowKit
set_option linter.unusedVariables false
set_option linter.unusedSimpArgs false
set_option maxRecDepth 100000
/-- The matrix of what is linear. -/
def mArr (F : Nat → Nat) : Array Value := iArr .u32 18 fun i => ((F (2 ^ i) : Nat) : Int)
theorem mArr_size (F : Nat → Nat) : (mArr F).size = 18 := iArr_size _ _ _
theorem mArr_at (F : Nat → Nat) (i : Nat) (h : i < 18) : (mArr F)[i]? = some (.int .u32 ((F (2 ^ i) : Nat) : Int)) := iArr_at _ _ _ i h
theorem mArr_one (F : Nat → Nat) : ∀ v ∈ (mArr F).toList, v.oneCell' = true := iArr_one _ _ _
set_option maxHeartbeats 1000000 in
theorem leads_any {F : Nat → Nat} (hF : Lin F) (s : Nat) (hs : s < 2 ^ 18) (w : World) :
    Calls Try.prog 50 #[.agg (mArr F), .int .u32 s] w fun e w' => e = .returned (.int .u32 (F s : Nat)) ∧ Below w.heap.size w w' := by
  have HF := Lib.hid hF
  have HS := Lib.hid hs
  have hz := mArr_size F
  clear hF
  go_enter Try.func50, Try.ntmps50
  go_wp2_with fail
  have hb := Lib.hid (Blk.new w 78 (mArr F))
  have hB := Lib.hid ((Below.refl w.heap.size w).alloc (Nat.le_refl _) (.cells (mArr F) 78))
  generalize w.alloc _ = w1 at *
  go_loopw [5, 7] (fun x i wr => ∃ k : Nat, k ≤ 18 ∧ i = .int .i64 k ∧ x = .int .u32 (ldTo F s k : Nat) ∧ Blk wr w.heap.size 78 (mArr F) ∧ Below w.heap.size w wr) (fun _ i _ => 18 - (intOf i).toNat)
  case atStart => exact ⟨0, by omega, rfl, rfl, hb.out, hB.out⟩
  case round =>
    obtain ⟨k, hk, rfl, rfl, hT, hK⟩ := hrel
    have HT := Lib.hid hT
    have HK := Lib.hid hK
    clear hT hK hb hB hz
    by_cases hlt : k < 18
    · have c0 : wr.cell? ⟨w.heap.size, k, none⟩ = some (.int .u32 ((F (2 ^ k) : Nat) : Int)) := by rw [HT.out.cell, mArr_at F k hlt]
      have f1 : F (2 ^ k) < 262144 := HF.out.lt _ (Nat.pow_lt_pow_right (by omega) hlt)
      have l1 : ldTo F s k < 262144 := ldTo_lt HF.out s k (by omega)
      have d1 : (s : Int) / 2 ^ k = ((s / 2 ^ k : Nat) : Int) := by simp
      have r1 := Nat.mod_two_eq_zero_or_one (s / 2 ^ k)
      have r2 : ((s / 2 ^ k : Nat) : Int) % 2 = ((s / 2 ^ k % 2 : Nat) : Int) := rfl
      have d2 : s / 2 ^ k ≤ s := Nat.div_le_self _ _
      have m1 : F (2 ^ k) * (s / 2 ^ k % 2) < 262144 := by rcases r1 with e | e <;> rw [e] <;> omega
      have m2 : ((F (2 ^ k) : Nat) : Int) * ((s / 2 ^ k % 2 : Nat) : Int) = ((F (2 ^ k) * (s / 2 ^ k % 2) : Nat) : Int) := by simp
      have x1 := bits_xor_nat (ldTo F s k) (F (2 ^ k) * (s / 2 ^ k % 2)) (by omega) (by omega)
      have x2 : ldTo F s (k + 1) = ldTo F s k ^^^ (F (2 ^ k) * (s / 2 ^ k % 2)) := rfl
      rw [← x2] at x1
      clear x2
      have l2 : ldTo F s (k + 1) < 262144 := ldTo_lt HF.out s (k + 1) (by omega)
      obtain ⟨l', hl'⟩ : ∃ l', ldTo F s (k + 1) = l' := ⟨_, rfl⟩
      rw [hl'] at x1 l2
      have HL := Lib.hid hl'
      clear hl'
      generalize ldTo F s k = l at *
      generalize F (2 ^ k) * (s / 2 ^ k % 2) = m at *
      generalize F (2 ^ k) = f at *
      generalize s / 2 ^ k % 2 = r at *
      generalize s / 2 ^ k = d at *
      have i0 : (0 : Int) ≤ (k : Int) := by omega
      have i1 : (k : Int) < 18 := by omega
      have i2 : (k : Int) ≤ 32 := by omega
      clear r1
      go_wp2
      go_region
      go_wp2
      go_roundw
      case rel => exact ⟨k + 1, by omega, by go_num, by rw [HL.out], HT.out, HK.out.drew⟩
      case measure => simp [intOf]; omega
    · obtain rfl : k = 18 := by omega
      rw [ldTo_all HF.out HS.out]
      go_wp2
      go_ret
      exact ⟨rfl, HK.out⟩
end Go.Proofs.Ytnelcbbjnpaodaa
