/-
  For every input OctetCounts returns true, and each argument reads behind the call as it read before. No conditions.
-/
import Derived.Test.YtlpicadfldbifaaRows
import Derived.Test.YtlpicadfldbifaaG3
import Derived.Test.YtlpicadfldbifaaM3
namespace Go.Proofs.Ytlpicadfldbifaa.octetCounts
open Go.ChangeShapes Go.WideShapes Go.ChangeAt Go.RowKit
open Go.ChangeMaps (open_string)

set_option linter.unusedVariables false
theorem rcount_yes (b : Int) (k : Nat) (h : rbit b ((7 : Int) - k) = true) : rcount b (k + 1) = ((rcount b k).1 + 1, (7 : Int) - k) := by simp [rcount, h]
theorem rcount_no (b : Int) (k : Nat) (h : rbit b ((7 : Int) - k) = false) : rcount b (k + 1) = rcount b k := by simp [rcount, h]
theorem count_in (b : Int) (w : World) (h0 : 0 ≤ b) (h1 : b ≤ 255) : Calls Try.prog 28 #[.int .u8 b] w fun e w' => e = .returned (.int .i64 (rcount b 8).1) ∧ w = w' :=
  asV (count_any b w) (by
    obtain ⟨k, rfl⟩ := Int.eq_ofNat_of_zero_le h0
    rw [(m_count k (by omega)).1])
theorem first_in (b : Int) (w : World) (h0 : 0 ≤ b) (h1 : b ≤ 255) : Calls Try.prog 29 #[.int .u8 b] w fun e w' => e = .returned (.int .i64 (rcount b 8).2) ∧ w = w' :=
  asV (first_any b w) (by
    obtain ⟨k, rfl⟩ := Int.eq_ofNat_of_zero_le h0
    rw [(m_count k (by omega)).2])
set_option maxHeartbeats 1000000 in
theorem walk (b : Int) (wb : (Lit.int .u8 b).wf = true) (w : World) :
    Calls Try.prog 6 #[.int .u8 b] w fun e w' => e = .returned (.bool true) ∧ Below w.heap.size w w' := by
  have bb := bounds_u8 wb
  clear wb
  go_enter Try.func6, Try.ntmps6
  go_wp2_with (first | (go_at_call 14; refine (live_any _).mono ?_; rintro e wl ⟨rfl, hbl⟩))
  go_loop [3, 4, 5] (fun n f i => ∃ k : Nat, k ≤ 8 ∧ i = .int .i64 (7 - k) ∧ n = .int .i64 (rcount b k).1 ∧ f = .int .i64 (rcount b k).2) (fun _ _ i => (intOf i + 1).toNat)
  case atStart => exact ⟨0, by omega, rfl, rfl, rfl⟩
  case round =>
    obtain ⟨k, hk, rfl, rfl, rfl⟩ := hrel
    have hc := rcount_bd b k
    by_cases hlt : k < 8
    · by_cases e : rbit b ((7 : Int) - k) = true
      · have E := Lib.hid (rcount_yes b k e)
        have ge : (0 : Int) ≤ 7 - k := by omega
        go_wp2_with (first | (go_at_call 16; refine (rbit_any _ _ _ (by omega) (by omega)).mono ?_; rintro e w' ⟨rfl, rfl⟩))
        go_round
        case rel => exact ⟨k + 1, by omega, congrArg (Value.int .i64) (by omega), by rw [E.out], by rw [E.out]⟩
        case measure => simp [intOf]; omega
      · have e : rbit b ((7 : Int) - k) = false := by simpa using e
        have E := Lib.hid (rcount_no b k e)
        have ge : (0 : Int) ≤ 7 - k := by omega
        go_wp2_with (first | (go_at_call 16; refine (rbit_any _ _ _ (by omega) (by omega)).mono ?_; rintro e w' ⟨rfl, rfl⟩))
        go_round
        case rel => exact ⟨k + 1, by omega, congrArg (Value.int .i64) (by omega), by rw [E.out], by rw [E.out]⟩
        case measure => simp [intOf]; omega
    · obtain rfl : k = 8 := by omega
      go_wp2_with (first | (go_at_call 28; refine (count_in _ _ (by omega) (by omega)).mono ?_; rintro e w' ⟨rfl, rfl⟩) | (go_at_call 29; refine (first_in _ _ (by omega) (by omega)).mono ?_; rintro e w' ⟨rfl, rfl⟩))
      go_ret
      exact ⟨rfl, hbl⟩

theorem own : ownKnob Try.prog.godebug = none := by kernel_rfl
theorem laidOut : laidOutB Try.prog = true := by kernel_rfl
set_option maxRecDepth 100000 in
theorem lifted (os : Os) (started : os.Started) (H : Type) (enc : TypeId × Value → H) :
    ReturnsInHanded {} Try.checked os 6 .any (Rows.octetCountsSpec.pre6 enc Try.prog Try.f6 Rows.octetCountsRow.domain false) (Rows.octetCountsSpec.post enc Try.prog Try.f6 false true false false) := by
  refine returnsInHanded_of_change (C := Try.checked) own started (by kernel_rfl) Try.func6
    (ChangeSpec.witness6 (enc := enc) (C := Try.checked) false ⟨#[], #[.int .u8 0], []⟩ 8 (by kernel_rfl) (by kernel_rfl) (by kernel_rfl) (by kernel_rfl)) ?_
  intro W base args ds gs before hval0 hW _ _
  have hval : ∀ (j : Nat) t v, Try.f6.params[j]? = some t → args[j]? = some v → Value.okWide Try.prog W .any base t v := hval0
  have hW' := hW
  obtain ⟨p, q, hA0, hV, rfl, _, _⟩ := hW
  have hA : DataW.TrodAll enc Try.prog W 0 (fun _ => true) true Try.f6.params.toList args.toList ds p := hA0
  rw [Try.params6] at hA hval
  obtain ⟨v0, vs0, d0, ds0, p0, q0, hargs, rfl, rfl, h0, r0⟩ := trodAll_cons hA
  obtain ⟨rfl, rfl, rfl⟩ := trodAll_nil r0
  obtain rfl : args = #[v0] := by cases args; simp_all
  obtain ⟨rfl, rfl⟩ := trodVars_none hV
  obtain ⟨a0, rfl, rfl, rfl, w0⟩ := open_int Try.underlying5 (hval 0 5 v0 rfl rfl) h0
  clear hA0 hval0
  refine (walk a0 w0 W).mono fun e W' ⟨he, hg⟩ => ?_
  subst he
  exact ⟨_, rfl, law_post rfl Try.underlying4 laidOut (by kernel_rfl) rfl hW' rfl hg⟩

theorem over : Rows.octetCountsRow.holds Try.pinned (OpenSpec.ofChange Rows.octetCountsSpec) :=
  OpenClaim.holds_of_wide 6 Try.f6 rfl rfl rfl rfl rfl rfl rfl ⟨rfl, rfl, rfl, rfl, rfl⟩ rfl rfl rfl rfl rfl (by kernel_rfl) Try.func6 (by kernel_rfl)
    (of_decide_eq_true (by kernel_rfl)) (by unfold Func.isWrapper; first | (rw [if_pos (by decide +kernel)]; kernel_rfl) | (rw [if_neg (by decide +kernel)]; exact ⟨rfl, rfl⟩))
    (fun os started H enc _ => lifted os started H enc)

theorem proved : Rows.OctetCountsSaid := over
#print axioms proved
end Go.Proofs.Ytlpicadfldbifaa.octetCounts
