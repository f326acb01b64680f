/-
  For every input OctetPacks returns true, and each argument reads behind the call as it read before. No conditions.
-/
import Derived.Test.YtlpicadfldbifaaRows
import Derived.Test.YtlpicadfldbifaaG3
import Derived.Test.YtlpicadfldbifaaM3
namespace Go.Proofs.Ytlpicadfldbifaa.octetPacks
open Go.ChangeShapes Go.WideShapes Go.ChangeAt Go.RowKit
open Go.ChangeMaps (open_string)

set_option linter.unusedVariables false
set_option maxHeartbeats 1000000 in
theorem walk (n : Int) (wn : (Lit.int .i64 n).wf = true) (b : Int) (wb : (Lit.int .u8 b).wf = true) (w : World) :
    Calls Try.prog 7 #[.int .i64 n, .int .u8 b] w fun e w' => e = .returned (.bool true) ∧ Below w.heap.size w w' := by
  have bb := bounds_u8 wb
  clear wb wn
  by_cases h1 : n < 0
  · by_cases h3 : 9 < b / 16
    · go_enter Try.func7, Try.ntmps7
      go_wp2_with (first | (go_at_call 14; refine (live_any _).mono ?_; rintro e wl ⟨rfl, hbl⟩) | (go_at_call 30; refine (pack_no _ _ (by omega)).mono ?_; rintro e w' ⟨rfl, rfl⟩) | (go_at_call 31; refine (unpack_no _ _ (by omega) (by omega) (by omega)).mono ?_; rintro e w' ⟨rfl, rfl⟩))
      go_ret
      exact ⟨rfl, hbl⟩
    by_cases h4 : 9 < b % 16
    · go_enter Try.func7, Try.ntmps7
      go_wp2_with (first | (go_at_call 14; refine (live_any _).mono ?_; rintro e wl ⟨rfl, hbl⟩) | (go_at_call 30; refine (pack_no _ _ (by omega)).mono ?_; rintro e w' ⟨rfl, rfl⟩) | (go_at_call 31; refine (unpack_no _ _ (by omega) (by omega) (by omega)).mono ?_; rintro e w' ⟨rfl, rfl⟩))
      go_ret
      exact ⟨rfl, hbl⟩
    · go_enter Try.func7, Try.ntmps7
      go_wp2_with (first | (go_at_call 14; refine (live_any _).mono ?_; rintro e wl ⟨rfl, hbl⟩) | (go_at_call 30; refine (pack_no _ _ (by omega)).mono ?_; rintro e w' ⟨rfl, rfl⟩) | (go_at_call 31; refine (unpack_yes _ _ (by omega) (by omega) (by omega) (by omega)).mono ?_; rintro e w' ⟨rfl, rfl⟩))
      go_ret
      exact ⟨rfl, hbl⟩
  by_cases h2 : 99 < n
  · by_cases h3 : 9 < b / 16
    · go_enter Try.func7, Try.ntmps7
      go_wp2_with (first | (go_at_call 14; refine (live_any _).mono ?_; rintro e wl ⟨rfl, hbl⟩) | (go_at_call 30; refine (pack_no _ _ (by omega)).mono ?_; rintro e w' ⟨rfl, rfl⟩) | (go_at_call 31; refine (unpack_no _ _ (by omega) (by omega) (by omega)).mono ?_; rintro e w' ⟨rfl, rfl⟩))
      go_ret
      exact ⟨rfl, hbl⟩
    by_cases h4 : 9 < b % 16
    · go_enter Try.func7, Try.ntmps7
      go_wp2_with (first | (go_at_call 14; refine (live_any _).mono ?_; rintro e wl ⟨rfl, hbl⟩) | (go_at_call 30; refine (pack_no _ _ (by omega)).mono ?_; rintro e w' ⟨rfl, rfl⟩) | (go_at_call 31; refine (unpack_no _ _ (by omega) (by omega) (by omega)).mono ?_; rintro e w' ⟨rfl, rfl⟩))
      go_ret
      exact ⟨rfl, hbl⟩
    · go_enter Try.func7, Try.ntmps7
      go_wp2_with (first | (go_at_call 14; refine (live_any _).mono ?_; rintro e wl ⟨rfl, hbl⟩) | (go_at_call 30; refine (pack_no _ _ (by omega)).mono ?_; rintro e w' ⟨rfl, rfl⟩) | (go_at_call 31; refine (unpack_yes _ _ (by omega) (by omega) (by omega) (by omega)).mono ?_; rintro e w' ⟨rfl, rfl⟩))
      go_ret
      exact ⟨rfl, hbl⟩
  · by_cases h3 : 9 < b / 16
    · go_enter Try.func7, Try.ntmps7
      go_wp2_with (first | (go_at_call 14; refine (live_any _).mono ?_; rintro e wl ⟨rfl, hbl⟩) | (go_at_call 30; refine (pack_yes _ _ (by omega) (by omega)).mono ?_; rintro e w' ⟨rfl, rfl⟩) | (go_at_call 31; refine (unpack_no _ _ (by omega) (by omega) (by omega)).mono ?_; rintro e w' ⟨rfl, rfl⟩))
      go_ret
      exact ⟨rfl, hbl⟩
    by_cases h4 : 9 < b % 16
    · go_enter Try.func7, Try.ntmps7
      go_wp2_with (first | (go_at_call 14; refine (live_any _).mono ?_; rintro e wl ⟨rfl, hbl⟩) | (go_at_call 30; refine (pack_yes _ _ (by omega) (by omega)).mono ?_; rintro e w' ⟨rfl, rfl⟩) | (go_at_call 31; refine (unpack_no _ _ (by omega) (by omega) (by omega)).mono ?_; rintro e w' ⟨rfl, rfl⟩))
      go_ret
      exact ⟨rfl, hbl⟩
    · go_enter Try.func7, Try.ntmps7
      go_wp2_with (first | (go_at_call 14; refine (live_any _).mono ?_; rintro e wl ⟨rfl, hbl⟩) | (go_at_call 30; refine (pack_yes _ _ (by omega) (by omega)).mono ?_; rintro e w' ⟨rfl, rfl⟩) | (go_at_call 31; refine (unpack_yes _ _ (by omega) (by omega) (by omega) (by omega)).mono ?_; rintro e w' ⟨rfl, rfl⟩))
      go_ret
      exact ⟨rfl, hbl⟩

theorem own : ownKnob Try.prog.godebug = none := by kernel_rfl
theorem laidOut : laidOutB Try.prog = true := by kernel_rfl
set_option maxRecDepth 100000 in
theorem lifted (os : Os) (started : os.Started) (H : Type) (enc : TypeId × Value → H) :
    ReturnsInHanded {} Try.checked os 7 .any (Rows.octetPacksSpec.pre6 enc Try.prog Try.f7 Rows.octetPacksRow.domain false) (Rows.octetPacksSpec.post enc Try.prog Try.f7 false true false false) := by
  refine returnsInHanded_of_change (C := Try.checked) own started (by kernel_rfl) Try.func7
    (ChangeSpec.witness6 (enc := enc) (C := Try.checked) false ⟨#[], #[.int .i64 0, .int .u8 0], []⟩ 8 (by kernel_rfl) (by kernel_rfl) (by kernel_rfl) (by kernel_rfl)) ?_
  intro W base args ds gs before hval0 hW _ _
  have hval : ∀ (j : Nat) t v, Try.f7.params[j]? = some t → args[j]? = some v → Value.okWide Try.prog W .any base t v := hval0
  have hW' := hW
  obtain ⟨p, q, hA0, hV, rfl, _, _⟩ := hW
  have hA : DataW.TrodAll enc Try.prog W 0 (fun _ => true) true Try.f7.params.toList args.toList ds p := hA0
  rw [Try.params7] at hA hval
  obtain ⟨v0, vs0, d0, ds0, p0, q0, hargs, rfl, rfl, h0, r0⟩ := trodAll_cons hA
  obtain ⟨v1, vs1, d1, ds1, p1, q1, rfl, rfl, rfl, h1, r1⟩ := trodAll_cons r0
  obtain ⟨rfl, rfl, rfl⟩ := trodAll_nil r1
  obtain rfl : args = #[v0, v1] := by cases args; simp_all
  obtain ⟨rfl, rfl⟩ := trodVars_none hV
  obtain ⟨a0, rfl, rfl, rfl, w0⟩ := open_int Try.underlying3 (hval 0 3 v0 rfl rfl) h0
  obtain ⟨a1, rfl, rfl, rfl, w1⟩ := open_int Try.underlying5 (hval 1 5 v1 rfl rfl) h1
  clear hA0 hval0
  refine (walk a0 w0 a1 w1 W).mono fun e W' ⟨he, hg⟩ => ?_
  subst he
  exact ⟨_, rfl, law_post rfl Try.underlying4 laidOut (by kernel_rfl) rfl hW' rfl hg⟩

theorem over : Rows.octetPacksRow.holds Try.pinned (OpenSpec.ofChange Rows.octetPacksSpec) :=
  OpenClaim.holds_of_wide 7 Try.f7 rfl rfl rfl rfl rfl rfl rfl ⟨rfl, rfl, rfl, rfl, rfl⟩ rfl rfl rfl rfl rfl (by kernel_rfl) Try.func7 (by kernel_rfl)
    (of_decide_eq_true (by kernel_rfl)) (by unfold Func.isWrapper; first | (rw [if_pos (by decide +kernel)]; kernel_rfl) | (rw [if_neg (by decide +kernel)]; exact ⟨rfl, rfl⟩))
    (fun os started H enc _ => lifted os started H enc)

theorem proved : Rows.OctetPacksSaid := over
#print axioms proved
end Go.Proofs.Ytlpicadfldbifaa.octetPacks
