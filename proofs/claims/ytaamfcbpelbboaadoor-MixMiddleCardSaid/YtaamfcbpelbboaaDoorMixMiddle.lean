/-
  For every input MixMiddle returns true, and each argument reads behind the call as it read before. The one condition: when the call begins the package-level variables that the row lists hold what the program lays in them (TIED: the card shows it of the text of the project, pruned to the packages that this seat loads).
-/
import Derived.Test.YtaamfcbpelbboaaDoorRows
import Derived.Test.YtaamfcbpelbboaaDoorG3
import Derived.SevenTiedAt
import Derived.ProofKit
import Derived.LaidMore
import Derived.OpenShut
import Derived.Stop.Joined
import Derived.Test.YtaamfcbpelbboaaDoorCards
import Derived.Test.YtaamfcbpelbboaaDoorTie
import Derived.Test.YtaamfcbpelbboaaDoorLaid8
namespace Go.Proofs.YtaamfcbpelbboaaDoor.mixMiddle
open Go.ChangeShapes Go.WideShapes Go.ChangeAt Go.RowKit
open Go.ChangeMaps (open_string)

theorem mid_bad {l r : Int} (h : l < -1099511627776 ∨ 1099511627776 < l ∨ r < -1099511627776 ∨ 1099511627776 < r ∨ ¬ (l + r) % 2 = 0) : midV l r = .tuple #[.int .i64 0, .int .i64 0, .bool false] := if_pos h
theorem mid_good {l r : Int} (h : ¬ (l < -1099511627776 ∨ 1099511627776 < l ∨ r < -1099511627776 ∨ 1099511627776 < r ∨ ¬ (l + r) % 2 = 0)) : midV l r = .tuple #[.int .i64 ((l + r) / 2), .int .i64 ((l - r) / 2), .bool true] := if_neg h
theorem tmod_two (l : Int) : (Int.tmod l 2 == 0) = decide (l % 2 = 0) := by
  by_cases h : l % 2 = 0
  · rw [decide_eq_true h]
    obtain ⟨k, hk⟩ := Int.dvd_of_emod_eq_zero h
    rw [hk, Int.mul_tmod_right]; rfl
  · rw [decide_eq_false h]
    exact neqB fun e => h (Int.emod_eq_zero_of_dvd (Int.dvd_of_tmod_eq_zero e))

set_option linter.unusedVariables false
set_option linter.unusedSimpArgs false
set_option maxRecDepth 100000 in
set_option maxHeartbeats 8000000 in
theorem walk (l : Int) (wl : (Lit.int .i64 l).wf = true) (r : Int) (wr : (Lit.int .i64 r).wf = true) (W : World) (hT : Tabs W) :
    Calls Tryd.prog 7 #[.int .i64 l, .int .i64 r] W fun e w' => e = .returned (.bool true) ∧ Below W.heap.size W w' := by
  have HT := Lib.hid hT
  clear hT wl wr
  by_cases c0 : l < -1099511627776
  · have HM := Lib.hid (mid_bad (l := l) (r := r) (.inl c0))
    go_enter Tryd.func7, Tryd.ntmps7
    go_wp2_with fail
    refine (liveM_any HT.out).mono ?_
    rintro e w0 ⟨rfl, b0⟩
    have HB0 := Lib.hid b0
    clear b0
    go_wp2_with fail
    refine (middle_any l r _).mono ?_
    rw [HM.out]
    rintro e w' ⟨rfl, rfl⟩
    go_wp2_with fail
    go_ret
    exact ⟨rfl, HB0.out⟩
  by_cases c1 : 1099511627776 < l
  · have HM := Lib.hid (mid_bad (l := l) (r := r) (.inr (.inl c1)))
    go_enter Tryd.func7, Tryd.ntmps7
    go_wp2_with fail
    refine (liveM_any HT.out).mono ?_
    rintro e w0 ⟨rfl, b0⟩
    have HB0 := Lib.hid b0
    clear b0
    go_wp2_with fail
    refine (middle_any l r _).mono ?_
    rw [HM.out]
    rintro e w' ⟨rfl, rfl⟩
    go_wp2_with fail
    go_ret
    exact ⟨rfl, HB0.out⟩
  by_cases c2 : r < -1099511627776
  · have HM := Lib.hid (mid_bad (l := l) (r := r) (.inr (.inr (.inl c2))))
    go_enter Tryd.func7, Tryd.ntmps7
    go_wp2_with fail
    refine (liveM_any HT.out).mono ?_
    rintro e w0 ⟨rfl, b0⟩
    have HB0 := Lib.hid b0
    clear b0
    go_wp2_with fail
    refine (middle_any l r _).mono ?_
    rw [HM.out]
    rintro e w' ⟨rfl, rfl⟩
    go_wp2_with fail
    go_ret
    exact ⟨rfl, HB0.out⟩
  by_cases c3 : 1099511627776 < r
  · have HM := Lib.hid (mid_bad (l := l) (r := r) (.inr (.inr (.inr (.inl c3)))))
    go_enter Tryd.func7, Tryd.ntmps7
    go_wp2_with fail
    refine (liveM_any HT.out).mono ?_
    rintro e w0 ⟨rfl, b0⟩
    have HB0 := Lib.hid b0
    clear b0
    go_wp2_with fail
    refine (middle_any l r _).mono ?_
    rw [HM.out]
    rintro e w' ⟨rfl, rfl⟩
    go_wp2_with fail
    go_ret
    exact ⟨rfl, HB0.out⟩
  obtain ⟨a, ha⟩ : ∃ a, decide (l % 2 = 0) = a := ⟨_, rfl⟩
  obtain ⟨b, hb⟩ : ∃ b, decide (r % 2 = 0) = b := ⟨_, rfl⟩
  have ta := (tmod_two l).trans ha
  have tb := (tmod_two r).trans hb
  by_cases hab : a = b
  · have nab : (a == b) = true := by rw [hab]; simp
    have he : (l + r) % 2 = 0 := by
      rw [← hab] at hb
      cases a <;> simp only [decide_eq_true_eq, decide_eq_false_iff_not] at ha hb <;> omega
    have HM := Lib.hid (mid_good (l := l) (r := r) (by omega))
    obtain ⟨h, hh⟩ : ∃ h, (l + r) / 2 = h := ⟨_, rfl⟩
    obtain ⟨d, hd⟩ : ∃ d, (l - r) / 2 = d := ⟨_, rfl⟩
    rw [hh, hd] at HM
    have e1 : h + d = l := by omega
    have e2 : h - d = r := by omega
    have w1 : IntKind.i64.wrap (h + d) = l := by rw [e1]; exact IntWalk.i64_in _ (by omega)
    have w2 : IntKind.i64.wrap (h - d) = r := by rw [e2]; exact IntWalk.i64_in _ (by omega)
    clear hab ha hb he hh hd e1 e2
    go_enter Tryd.func7, Tryd.ntmps7
    go_wp2_with fail
    refine (liveM_any HT.out).mono ?_
    rintro e w0 ⟨rfl, b0⟩
    have HB0 := Lib.hid b0
    clear b0
    go_wp2_with fail
    refine (middle_any l r _).mono ?_
    rw [HM.out]
    rintro e w' ⟨rfl, rfl⟩
    go_wp2_with fail
    go_ret
    exact ⟨rfl, HB0.out⟩
  · have nab : (a == b) = false := by cases a <;> cases b <;> first | rfl | exact absurd rfl hab
    have he : ¬ (l + r) % 2 = 0 := by
      cases a <;> cases b <;> simp only [decide_eq_true_eq, decide_eq_false_iff_not] at ha hb <;> first | exact absurd rfl hab | omega
    have HM := Lib.hid (mid_bad (l := l) (r := r) (.inr (.inr (.inr (.inr he)))))
    clear hab ha hb he
    go_enter Tryd.func7, Tryd.ntmps7
    go_wp2_with fail
    refine (liveM_any HT.out).mono ?_
    rintro e w0 ⟨rfl, b0⟩
    have HB0 := Lib.hid b0
    clear b0
    go_wp2_with fail
    refine (middle_any l r _).mono ?_
    rw [HM.out]
    rintro e w' ⟨rfl, rfl⟩
    go_wp2_with fail
    go_ret
    exact ⟨rfl, HB0.out⟩

theorem own : ownKnob Tryd.prog.godebug = none := by kernel_rfl
theorem laidOut : laidOutB Tryd.prog = true := by kernel_rfl
theorem door_met (os : Os) (args : Array Value) : laidMetH Tryd.prog laid2 ((World.doorLaid Tryd.prog 400 os).forCall (fun _ _ => 0) ⟨#[], args, []⟩).memory :=
  laidMetH_of_parts3 (fuel := 8) (laidMet_of_run' 8 (by kernel_rfl) (by kernel_rfl)) (by kernel_rfl) (by kernel_rfl)
set_option maxRecDepth 100000 in
theorem lifted (os : Os) (started : os.Started) (H : Type) (enc : TypeId × Value → H) :
    ReturnsInHanded {} Tryd.checked os 7 .any (fun w args => (Rows.mixMiddleSpec.pre enc Tryd.prog Tryd.f7 [] false w args ∧ laidMetH Tryd.prog laid2 w) ∧ sizedMet enc Tryd.prog Tryd.f7 (OpenSpec.ofChange Rows.mixMiddleSpec) false w args)
      (Rows.mixMiddleSpec.post enc Tryd.prog Tryd.f7 false true false false) := by
  refine returnsInHanded_of_change_and (C := Tryd.checked) (X := fun w _ => laidMetH Tryd.prog laid2 w) (fun _ _ _ hh h => h.of_heap hh) own started (by kernel_rfl) Tryd.func7
    (ChangeSpec.witness_shaped (enc := enc) (C := Tryd.checked) (os := os) (X := fun w _ => laidMetH Tryd.prog laid2 w) false (World.doorLaid Tryd.prog 400 os) #[.int .i64 0, .int .i64 0] 8 rfl (World.shaped_of_RefB (by kernel_rfl) (by kernel_rfl)) (by kernel_rfl) (by kernel_rfl) (by kernel_rfl) (door_met os _)) ?_
  intro W base args ds gs before hval0 hW _ _ hL0 _
  have hL : laidMetH Tryd.prog laid2 W := hL0
  rw [MakeChecks.laidMetH_plain _ _ _ (by kernel_rfl)] at hL
  have HT := of_laid hL
  have hval : ∀ (j : Nat) t v, Tryd.f7.params[j]? = some t → args[j]? = some v → Value.okWide Tryd.prog W .any base t v := hval0
  have hW' := hW
  obtain ⟨p, q, hA0, hV, rfl, _, _⟩ := hW
  have hA : DataW.TrodAll enc Tryd.prog W 0 (fun _ => true) true Tryd.f7.params.toList args.toList ds p := hA0
  rw [Tryd.params7] at hA hval
  obtain ⟨v0, vs0, d0, ds0, p0, q0, hargs, rfl, rfl, h0, r0⟩ := trodAll_cons hA
  obtain ⟨v1, vs1, d1, ds1, p1, q1, rfl, rfl, rfl, h1, r1⟩ := trodAll_cons r0
  obtain ⟨rfl, rfl, rfl⟩ := trodAll_nil r1
  obtain rfl : args = #[v0, v1] := by cases args; simp_all
  obtain ⟨rfl, rfl⟩ := trodVars_none hV
  obtain ⟨a0, rfl, rfl, rfl, w0⟩ := open_int Tryd.underlying3 (hval 0 3 v0 rfl rfl) h0
  obtain ⟨a1, rfl, rfl, rfl, w1⟩ := open_int Tryd.underlying3 (hval 1 3 v1 rfl rfl) h1
  clear hA0 hval0
  refine (walk a0 w0 a1 w1 W HT).mono fun e W' ⟨he, hg⟩ => ?_
  subst he
  exact ⟨_, rfl, law_post rfl Tryd.underlying4 laidOut (by kernel_rfl) rfl hW' rfl hg⟩

theorem over : Rows.mixMiddleRow.holds Tryd.pinned (OpenSpec.ofChange Rows.mixMiddleSpec) :=
  OpenClaim.holds_of_wide 7 Tryd.f7 rfl rfl rfl rfl rfl rfl rfl ⟨rfl, rfl, rfl, rfl, rfl⟩ rfl rfl rfl rfl rfl (by kernel_rfl) Tryd.func7 (by kernel_rfl)
    (of_decide_eq_true (by kernel_rfl)) (by unfold Func.isWrapper; first | (rw [if_pos (by decide +kernel)]; kernel_rfl) | (rw [if_neg (by decide +kernel)]; exact ⟨rfl, rfl⟩))
    (fun os started H enc _ => lifted os started H enc)

theorem proved : Rows.MixMiddleCardSaid :=
  Claim7.holds_tied_plain_at .later [] [.data, .data] true _ false
    over (fun _ h => by cases h) (by kernel_rfl) (fun _ h => by cases h) mixMiddle_row_tie rfl ⟨rfl, rfl⟩ (by kernel_rfl) rfl
    (fun f fn hf hfn => by
      obtain rfl : f = 7 := Option.some.inj ((show Tryd.prog.funcNamed "gannet/gannetlaw16.MixMiddle" = some 7 by kernel_rfl).symm.trans hf) |>.symm
      obtain rfl : fn = Tryd.f7 := (Option.some.inj (Tryd.func7.symm.trans hfn)).symm
      exact ⟨by kernel_rfl, fun j t ht => by
        rw [Tryd.params7] at ht
        have hm : t ∈ [3, 3] := by simpa using Array.mem_of_getElem? ht
        have hall : ([3, 3].all fun u => !Tryd.prog.wantsStandIn u) = true := by kernel_rfl
        exact (show Tryd.prog.wantsStandIn t = false by simpa using List.all_eq_true.1 hall t hm)⟩)
    (by kernel_rfl)
#print axioms proved
end Go.Proofs.YtaamfcbpelbboaaDoor.mixMiddle
