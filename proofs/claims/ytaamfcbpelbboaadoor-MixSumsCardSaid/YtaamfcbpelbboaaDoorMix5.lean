/-
  Layer 16: unheard; slices.IndexFunc and slices.DeleteFunc of it.
-/
import Derived.Test.YtaamfcbpelbboaaDoorPsg5
namespace Go.Proofs.YtaamfcbpelbboaaDoor
open Go.RowKit
set_option linter.unusedVariables false
set_option linter.unusedSimpArgs false
set_option maxRecDepth 100000
def Vc.un (v : Vc) : Bool := v.vo == 0 && (v.lf == 0 && v.rt == 0)
theorem unheard_any (v : Vc) (w : World) : Calls Tryd.prog 38 #[.agg (vcC v)] w fun e w' => e = .returned (.bool v.un) ∧ Below w.heap.size w w' := by
  unfold Vc.un vcC
  obtain ⟨a, ha⟩ : ∃ a, (v.vo == 0) = a := ⟨_, rfl⟩
  obtain ⟨b, hb⟩ : ∃ b, (v.lf == 0) = b := ⟨_, rfl⟩
  obtain ⟨c, hc⟩ : ∃ c, (v.rt == 0) = c := ⟨_, rfl⟩
  rw [ha, hb, hc]
  go_enter Tryd.func38, Tryd.ntmps38
  go_wp2_with fail
  all_goals
    go_ret
    exact ⟨by simp_all, (Below.refl _ _).alloc (Nat.le_refl _) _⟩
theorem ixf_any {w : World} {A : Option Addr} {n c : Nat} {v : Nat → Vc} (hV : VR w A n v) (hn : n ≤ 300) :
    Calls Tryd.prog 49 #[.slice A n c, .func (.func 38) #[] #[]] w fun e w' => ((∃ k : Nat, k < n ∧ (v k).un = true ∧ (∀ j, j < k → (v j).un = false) ∧ e = .returned (.int .i64 k)) ∨ ((∀ j, j < n → (v j).un = false) ∧ e = .returned (.int .i64 (-1)))) ∧ Below w.heap.size w w' := by
  have HV := Lib.hid hV
  clear hV
  go_enter Tryd.func49, Tryd.ntmps49
  go_wp2_with fail
  go_loopw [8] (fun i wr => ∃ k : Nat, k ≤ n ∧ i = .int .i64 k ∧ Hid (∀ j, j < k → (v j).un = false) ∧ Below w.heap.size w wr) (fun i _ => n - (intOf i).toNat)
  case atStart => exact ⟨0, by omega, rfl, Lib.hid fun j hj => absurd hj (by omega), Below.refl _ _⟩
  case round =>
    obtain ⟨k, hk, rfl, HU, hB⟩ := hrel
    have HB := Lib.hid hB
    clear hB
    by_cases hlt : k < n
    · have i0 : (0 : Int) ≤ (k : Int) := by omega
      have i1 : (k : Int) < n := by omega
      obtain ⟨ad, rfl, hl, q0, q1, q2, q3, _⟩ := (HV.out.keep HB.out).at_ k hlt
      clear hl
      obtain ⟨u, hu⟩ : ∃ u, (v k).un = u := ⟨_, rfl⟩
      have HX := Lib.hid hu
      clear hu
      go_wp2_with fail
      refine (unheard_any (v k) _).mono ?_
      rw [HX.out]
      rintro e w1 ⟨rfl, b1⟩
      have HB1 := Lib.hid (Below.trans HB.out (b1.mono HB.out.size))
      clear b1
      cases u with
      | true =>
        go_wp2_with fail
        go_ret
        exact ⟨.inl ⟨k, hlt, HX.out, HU.out, rfl⟩, HB1.out⟩
      | false =>
        go_wp2_with fail
        go_roundw
        case rel =>
          refine ⟨k + 1, by omega, by go_num, Lib.hid fun j hj => ?_, HB1.out⟩
          by_cases e : j = k
          · subst e; exact HX.out
          · exact HU.out j (by omega)
        case measure => simp [intOf]; omega
    · have i1 : ¬ (k : Int) < n := by omega
      obtain rfl : k = n := by omega
      go_wp2_with fail
      go_ret
      exact ⟨.inr ⟨HU.out, rfl⟩, HB.out⟩
end Go.Proofs.YtaamfcbpelbboaaDoor
