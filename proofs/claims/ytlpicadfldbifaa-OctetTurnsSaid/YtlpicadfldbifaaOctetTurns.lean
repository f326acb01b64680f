/-
  For every input OctetTurns returns true, and each argument reads behind the call as it read before. No conditions.
-/
import Derived.Test.YtlpicadfldbifaaRows
import Derived.Test.YtlpicadfldbifaaG3
import Derived.Test.YtlpicadfldbifaaM3
namespace Go.Proofs.Ytlpicadfldbifaa.octetTurns
open Go.ChangeShapes Go.WideShapes Go.ChangeAt Go.RowKit
open Go.ChangeMaps (open_string)

set_option linter.unusedVariables false
theorem left_in (b : Int) (i : Bool) (w : World) (h0 : 0 ≤ b) (h1 : b ≤ 255) : Calls Try.prog 24 #[.int .u8 b, .bool i] w fun e w' => e = .returned (.tuple #[.int .u8 (rlI b i), .bool (rbit b 7)]) ∧ w = w' :=
  asV (left_any b i w) (by
    obtain ⟨k, rfl⟩ := Int.eq_ofNat_of_zero_le h0
    rw [m_left k (by omega), show bitB (k : Int) 7 = rbit k 7 from m_bit k (by omega) 7 (by omega)])
theorem right_in (b : Int) (i : Bool) (w : World) (h0 : 0 ≤ b) (h1 : b ≤ 255) : Calls Try.prog 25 #[.int .u8 b, .bool i] w fun e w' => e = .returned (.tuple #[.int .u8 (rrI b i), .bool (rbit b 0)]) ∧ w = w' :=
  asV (right_any b i w) (by
    obtain ⟨k, rfl⟩ := Int.eq_ofNat_of_zero_le h0
    rw [m_right k (by omega), show bitB (k : Int) 0 = rbit k 0 from m_bit k (by omega) 0 (by omega)])
theorem rleft_in (b : Int) (i : Bool) (w : World) (h0 : 0 ≤ b) (h1 : b ≤ 255) : Calls Try.prog 26 #[.int .u8 b, .bool i] w fun e w' => e = .returned (.tuple #[.int .u8 (rlI b i), .bool (rbit b 7)]) ∧ Below w.heap.size w w' := rleft_any b i w h0 h1
theorem rright_in (b : Int) (i : Bool) (w : World) (h0 : 0 ≤ b) (h1 : b ≤ 255) : Calls Try.prog 27 #[.int .u8 b, .bool i] w fun e w' => e = .returned (.tuple #[.int .u8 (rrI b i), .bool (rbit b 0)]) ∧ Below w.heap.size w w' := rright_any b i w h0 h1
theorem m_back' (b : Int) (i : Bool) (h0 : 0 ≤ b) (h1 : b ≤ 255) : rrI (rlI b i) (rbit b 7) = b ∧ rbit (rlI b i) 0 = i := by
  obtain ⟨k, rfl⟩ := Int.eq_ofNat_of_zero_le h0
  exact m_back k (by omega) i
theorem m_nine' (b : Int) (i : Bool) (h0 : 0 ≤ b) (h1 : b ≤ 255) : turnN b i 9 = (b, i) := by
  obtain ⟨k, rfl⟩ := Int.eq_ofNat_of_zero_le h0
  exact m_nine k (by omega) i
set_option maxHeartbeats 1000000 in
theorem walk (b : Int) (wb : (Lit.int .u8 b).wf = true) (i : Bool) (w : World) :
    Calls Try.prog 5 #[.int .u8 b, .bool i] w fun e w' => e = .returned (.bool true) ∧ Below w.heap.size w w' := by
  have bb := bounds_u8 wb
  clear wb
  have bl := rlI_bd b i
  obtain ⟨t1, t2⟩ := m_back' b i bb.1 bb.2
  have NN := Lib.hid (m_nine' b i bb.1 bb.2)
  have TB := Lib.hid (turnN_bd b i bb.1 bb.2)
  go_enter Try.func5, Try.ntmps5
  go_wp2_with (first | (go_at_call 14; refine (live_any _).mono ?_; rintro e wl ⟨rfl, hbl⟩) | (go_at_call 24; refine (left_in _ _ _ (by omega) (by omega)).mono ?_; rintro e w' ⟨rfl, rfl⟩) | (go_at_call 25; refine (right_in _ _ _ (by omega) (by omega)).mono ?_; rintro e w' ⟨rfl, rfl⟩) | (go_at_call 26; refine (rleft_in _ _ _ (by omega) (by omega)).mono ?_; rintro e w2 ⟨rfl, hb2⟩) | (go_at_call 27; refine (rright_in _ _ _ (by omega) (by omega)).mono ?_; rintro e w3 ⟨rfl, hb3⟩))
  go_loop [15, 16, 17] (fun c d j => ∃ k : Nat, k ≤ 9 ∧ j = .int .i64 k ∧ c = .int .u8 (turnN b i k).1 ∧ d = .bool (turnN b i k).2) (fun _ _ j => 9 - (intOf j).toNat)
  case atStart => exact ⟨0, by omega, rfl, rfl, rfl⟩
  case round =>
    obtain ⟨k, hk, rfl, rfl, rfl⟩ := hrel
    by_cases hlt : k < 9
    · have hT := TB.out k
      go_wp2_with (first | (go_at_call 24; refine (left_in _ _ _ (by omega) (by omega)).mono ?_; rintro e w' ⟨rfl, rfl⟩))
      go_round
      case rel => exact ⟨k + 1, by omega, by go_num, rfl, rfl⟩
      case measure => simp [intOf]; omega
    · obtain rfl : k = 9 := by omega
      have e9 := NN.out
      rw [e9]
      clear e9
      go_wp2_with fail
      go_ret
      exact ⟨rfl, (hbl.trans (hb2.mono hbl.size)).trans (hb3.mono (Nat.le_trans hbl.size hb2.size))⟩

theorem own : ownKnob Try.prog.godebug = none := by kernel_rfl
theorem laidOut : laidOutB Try.prog = true := by kernel_rfl
set_option maxRecDepth 100000 in
theorem lifted (os : Os) (started : os.Started) (H : Type) (enc : TypeId × Value → H) :
    ReturnsInHanded {} Try.checked os 5 .any (Rows.octetTurnsSpec.pre6 enc Try.prog Try.f5 Rows.octetTurnsRow.domain false) (Rows.octetTurnsSpec.post enc Try.prog Try.f5 false true false false) := by
  refine returnsInHanded_of_change (C := Try.checked) own started (by kernel_rfl) Try.func5
    (ChangeSpec.witness6 (enc := enc) (C := Try.checked) false ⟨#[], #[.int .u8 0, .bool false], []⟩ 8 (by kernel_rfl) (by kernel_rfl) (by kernel_rfl) (by kernel_rfl)) ?_
  intro W base args ds gs before hval0 hW _ _
  have hval : ∀ (j : Nat) t v, Try.f5.params[j]? = some t → args[j]? = some v → Value.okWide Try.prog W .any base t v := hval0
  have hW' := hW
  obtain ⟨p, q, hA0, hV, rfl, _, _⟩ := hW
  have hA : DataW.TrodAll enc Try.prog W 0 (fun _ => true) true Try.f5.params.toList args.toList ds p := hA0
  rw [Try.params5] at hA hval
  obtain ⟨v0, vs0, d0, ds0, p0, q0, hargs, rfl, rfl, h0, r0⟩ := trodAll_cons hA
  obtain ⟨v1, vs1, d1, ds1, p1, q1, rfl, rfl, rfl, h1, r1⟩ := trodAll_cons r0
  obtain ⟨rfl, rfl, rfl⟩ := trodAll_nil r1
  obtain rfl : args = #[v0, v1] := by cases args; simp_all
  obtain ⟨rfl, rfl⟩ := trodVars_none hV
  obtain ⟨a0, rfl, rfl, rfl, w0⟩ := open_int Try.underlying5 (hval 0 5 v0 rfl rfl) h0
  obtain ⟨a1, rfl, rfl, rfl⟩ := open_bool Try.underlying4 (hval 1 4 v1 rfl rfl) h1
  clear hA0 hval0
  refine (walk a0 w0 a1 W).mono fun e W' ⟨he, hg⟩ => ?_
  subst he
  exact ⟨_, rfl, law_post rfl Try.underlying4 laidOut (by kernel_rfl) rfl hW' rfl hg⟩

theorem over : Rows.octetTurnsRow.holds Try.pinned (OpenSpec.ofChange Rows.octetTurnsSpec) :=
  OpenClaim.holds_of_wide 5 Try.f5 rfl rfl rfl rfl rfl rfl rfl ⟨rfl, rfl, rfl, rfl, rfl⟩ rfl rfl rfl rfl rfl (by kernel_rfl) Try.func5 (by kernel_rfl)
    (of_decide_eq_true (by kernel_rfl)) (by unfold Func.isWrapper; first | (rw [if_pos (by decide +kernel)]; kernel_rfl) | (rw [if_neg (by decide +kernel)]; exact ⟨rfl, rfl⟩))
    (fun os started H enc _ => lifted os started H enc)

theorem proved : Rows.OctetTurnsSaid := over
#print axioms proved
end Go.Proofs.Ytlpicadfldbifaa.octetTurns
