/-
  For every input OctetBits returns true, and each argument reads behind the call as it read before. No conditions.
-/
import Derived.Test.YtlpicadfldbifaaRows
import Derived.Test.YtlpicadfldbifaaG3
import Derived.Test.YtlpicadfldbifaaM3
namespace Go.Proofs.Ytlpicadfldbifaa.octetBits
open Go.ChangeShapes Go.WideShapes Go.ChangeAt Go.RowKit
open Go.ChangeMaps (open_string)

set_option linter.unusedVariables false
theorem maskI_no (n : Int) (h : ¬ (0 ≤ n ∧ n ≤ 7)) : maskI n = 0 := by unfold maskI; rw [if_neg h]
theorem m1 (b n : Int) (h0 : 0 ≤ b) (h1 : b ≤ 255) : bitB b n = rbit b n := by
  obtain ⟨k, rfl⟩ := Int.eq_ofNat_of_zero_le h0
  by_cases h : 0 ≤ n ∧ n ≤ 7
  · obtain ⟨j, rfl⟩ := Int.eq_ofNat_of_zero_le h.1
    exact m_bit k (by omega) j (by omega)
  · unfold bitB rbit
    rw [maskI_no n h, m_and k (by omega), if_neg h]
    rfl
theorem m2 (b n : Int) (on : Bool) (h0 : 0 ≤ b) (h1 : b ≤ 255) : withI b n on = rwith b n on := by
  obtain ⟨k, rfl⟩ := Int.eq_ofNat_of_zero_le h0
  by_cases h : 0 ≤ n ∧ n ≤ 7
  · obtain ⟨j, rfl⟩ := Int.eq_ofNat_of_zero_le h.1
    exact m_with k (by omega) j (by omega) on
  · unfold withI rwith
    rw [maskI_no n h, m_with_or k (by omega), m_with_an k (by omega), if_neg h]
    cases on <;> rfl
theorem m3 (b n : Int) (on : Bool) (i : Nat) (h0 : 0 ≤ b) (h1 : b ≤ 255) (hi : i < 8) : bitB (withI b n on) i = if (i : Int) = n then on else rbit b i := by
  obtain ⟨k, rfl⟩ := Int.eq_ofNat_of_zero_le h0
  by_cases h : 0 ≤ n ∧ n ≤ 7
  · obtain ⟨j, rfl⟩ := Int.eq_ofNat_of_zero_le h.1
    exact m_withbit k (by omega) j (by omega) on i hi
  · rw [if_neg (by omega), m2 _ _ _ h0 h1]
    unfold rwith
    rw [if_neg h, m1 _ _ h0 h1]
set_option maxHeartbeats 1000000 in
theorem walk (b : Int) (wb : (Lit.int .u8 b).wf = true) (n : Int) (wn : (Lit.int .i64 n).wf = true) (on : Bool) (w : World) :
    Calls Try.prog 3 #[.int .u8 b, .int .i64 n, .bool on] w fun e w' => e = .returned (.bool true) ∧ Below w.heap.size w w' := by
  have bb := bounds_u8 wb
  clear wb wn
  have E3 := Lib.hid (fun i hi => m3 b n on i bb.1 bb.2 hi)
  have E1 := Lib.hid (m1 b n bb.1 bb.2)
  have E2 := Lib.hid (m2 b n on bb.1 bb.2)
  go_enter Try.func3, Try.ntmps3
  go_wp2_with (first | (go_at_call 14; refine (live_any _).mono ?_; rintro e wl ⟨rfl, hbl⟩) | (go_at_call 15; refine (with_any _ _ _ _).mono ?_; rintro e w' ⟨rfl, rfl⟩))
  go_loop [8] (fun i => ∃ k : Nat, k ≤ 8 ∧ i = .int .i64 k) (fun i => 8 - (intOf i).toNat)
  case atStart => exact ⟨0, by omega, rfl⟩
  case round =>
    obtain ⟨k, hk, rfl⟩ := hrel
    by_cases hlt : k < 8
    · have e3 := E3.out k hlt
      by_cases e : (k : Int) = n
      · have he : ((k : Int) == n) = true := beq_iff_eq.2 e
        rw [if_pos e] at e3
        clear e
        have E4 := Lib.hid e3
        clear e3
        go_wp2_with (first | (go_at_call 16; refine (rbit_any _ _ _ (by omega) (by omega)).mono ?_; rintro e w' ⟨rfl, rfl⟩) | (go_at_call 17; refine (asV (bit_any _ _ _) (congrArg Value.bool E4.out)).mono ?_; rintro e w' ⟨rfl, rfl⟩))
        go_round
        case rel => exact ⟨k + 1, by omega, by go_num⟩
        case measure => simp [intOf]; omega
      · have he : ((k : Int) == n) = false := beq_eq_false_iff_ne.2 e
        rw [if_neg e] at e3
        clear e
        have E4 := Lib.hid e3
        clear e3
        go_wp2_with (first | (go_at_call 16; refine (rbit_any _ _ _ (by omega) (by omega)).mono ?_; rintro e w' ⟨rfl, rfl⟩) | (go_at_call 17; refine (asV (bit_any _ _ _) (congrArg Value.bool E4.out)).mono ?_; rintro e w' ⟨rfl, rfl⟩))
        go_round
        case rel => exact ⟨k + 1, by omega, by go_num⟩
        case measure => simp [intOf]; omega
    · obtain rfl : k = 8 := by omega
      go_wp2_with (first | (go_at_call 16; refine (rbit_any _ _ _ (by omega) (by omega)).mono ?_; rintro e w' ⟨rfl, rfl⟩) | (go_at_call 17; refine (asV (bit_any _ _ _) (congrArg Value.bool E1.out)).mono ?_; rintro e w' ⟨rfl, rfl⟩) | (go_at_call 18; refine (asV (rwith_any _ _ _ _ (by omega) (by omega)) (congrArg (Value.int .u8) E2.out.symm)).mono ?_; rintro e w2 ⟨rfl, hb2⟩))
      go_ret
      exact ⟨rfl, hbl.trans (hb2.mono hbl.size)⟩

theorem own : ownKnob Try.prog.godebug = none := by kernel_rfl
theorem laidOut : laidOutB Try.prog = true := by kernel_rfl
set_option maxRecDepth 100000 in
theorem lifted (os : Os) (started : os.Started) (H : Type) (enc : TypeId × Value → H) :
    ReturnsInHanded {} Try.checked os 3 .any (Rows.octetBitsSpec.pre6 enc Try.prog Try.f3 Rows.octetBitsRow.domain false) (Rows.octetBitsSpec.post enc Try.prog Try.f3 false true false false) := by
  refine returnsInHanded_of_change (C := Try.checked) own started (by kernel_rfl) Try.func3
    (ChangeSpec.witness6 (enc := enc) (C := Try.checked) false ⟨#[], #[.int .u8 0, .int .i64 0, .bool false], []⟩ 8 (by kernel_rfl) (by kernel_rfl) (by kernel_rfl) (by kernel_rfl)) ?_
  intro W base args ds gs before hval0 hW _ _
  have hval : ∀ (j : Nat) t v, Try.f3.params[j]? = some t → args[j]? = some v → Value.okWide Try.prog W .any base t v := hval0
  have hW' := hW
  obtain ⟨p, q, hA0, hV, rfl, _, _⟩ := hW
  have hA : DataW.TrodAll enc Try.prog W 0 (fun _ => true) true Try.f3.params.toList args.toList ds p := hA0
  rw [Try.params3] at hA hval
  obtain ⟨v0, vs0, d0, ds0, p0, q0, hargs, rfl, rfl, h0, r0⟩ := trodAll_cons hA
  obtain ⟨v1, vs1, d1, ds1, p1, q1, rfl, rfl, rfl, h1, r1⟩ := trodAll_cons r0
  obtain ⟨v2, vs2, d2, ds2, p2, q2, rfl, rfl, rfl, h2, r2⟩ := trodAll_cons r1
  obtain ⟨rfl, rfl, rfl⟩ := trodAll_nil r2
  obtain rfl : args = #[v0, v1, v2] := by cases args; simp_all
  obtain ⟨rfl, rfl⟩ := trodVars_none hV
  obtain ⟨a0, rfl, rfl, rfl, w0⟩ := open_int Try.underlying5 (hval 0 5 v0 rfl rfl) h0
  obtain ⟨a1, rfl, rfl, rfl, w1⟩ := open_int Try.underlying3 (hval 1 3 v1 rfl rfl) h1
  obtain ⟨a2, rfl, rfl, rfl⟩ := open_bool Try.underlying4 (hval 2 4 v2 rfl rfl) h2
  clear hA0 hval0
  refine (walk a0 w0 a1 w1 a2 W).mono fun e W' ⟨he, hg⟩ => ?_
  subst he
  exact ⟨_, rfl, law_post rfl Try.underlying4 laidOut (by kernel_rfl) rfl hW' rfl hg⟩

theorem over : Rows.octetBitsRow.holds Try.pinned (OpenSpec.ofChange Rows.octetBitsSpec) :=
  OpenClaim.holds_of_wide 3 Try.f3 rfl rfl rfl rfl rfl rfl rfl ⟨rfl, rfl, rfl, rfl, rfl⟩ rfl rfl rfl rfl rfl (by kernel_rfl) Try.func3 (by kernel_rfl)
    (of_decide_eq_true (by kernel_rfl)) (by unfold Func.isWrapper; first | (rw [if_pos (by decide +kernel)]; kernel_rfl) | (rw [if_neg (by decide +kernel)]; exact ⟨rfl, rfl⟩))
    (fun os started H enc _ => lifted os started H enc)

theorem proved : Rows.OctetBitsSaid := over
#print axioms proved
end Go.Proofs.Ytlpicadfldbifaa.octetBits
