/-
  For every input FlagsMoves returns true, and each argument reads behind the call as it read before. The one condition: when the call begins the package-level variables that the row lists hold what the program lays in them (TIED: the card shows it of the text of the project, pruned to the packages that this seat loads).
-/
import Derived.Test.YtccimkmlbcgekaaDoorRows
import Derived.Test.YtccimkmlbcgekaaDoorG3
import Derived.SevenTiedAt
import Derived.ProofKit
import Derived.LaidMore
import Derived.OpenShut
import Derived.Stop.Joined
import Derived.Test.YtccimkmlbcgekaaDoorCards
import Derived.Test.YtccimkmlbcgekaaDoorTie
import Derived.Test.YtccimkmlbcgekaaDoorFlg5
namespace Go.Proofs.YtccimkmlbcgekaaDoor.flagsMoves
open Go.ChangeShapes Go.WideShapes Go.ChangeAt Go.RowKit
open Go.ChangeMaps (open_string)

set_option linter.unusedVariables false
set_option linter.unusedSimpArgs false
set_option maxRecDepth 100000 in
set_option maxHeartbeats 8000000 in
theorem walk (p : Int) (wp : (Lit.int .u8 p).wf = true) (v : Int) (wv : (Lit.int .u8 v).wf = true) (on : Bool) (W : World) (hT : Tabs W) :
    Calls Tryd.prog 7 #[.int .u8 p, .int .u8 v, .bool on] W fun e w' => e = .returned (.bool true) ∧ Below W.heap.size W w' := by
  obtain ⟨p0, p1⟩ := bounds_u8 wp
  obtain ⟨v0, v1⟩ := bounds_u8 wv
  have HT := Lib.hid hT
  have fS : ∀ (q : Int) (b : Bool), 0 ≤ q → q ≤ 255 → flS q 128 b = rwith q 7 b ∧ flS q 32 b = rwith q 5 b ∧ flS q 16 b = rwith q 4 b ∧ flS q 2 b = rwith q 1 b := fun q b h0 h1 => flS_rwith q b h0 h1
  have B7 := rwith_bd p 7 (decide (128 ≤ v)) p0 p1
  have B5 := rwith_bd p 5 false p0 p1
  have e1 : flS (flS p 128 (bitB v 7)) 2 (v == 0) = rwith (rwith p 7 (decide (128 ≤ v))) 1 (v == 0) := by rw [fbit7 v v0 v1, (fS p _ p0 p1).1, (fS _ _ B7.1 B7.2).2.2.2]
  have e2 : flS (flS p 32 false) 16 on = rwith (rwith p 5 false) 4 on := by rw [(fS p _ p0 p1).2.1, (fS _ _ B5.1 B5.2).2.2.1]
  have e3 : flS p 16 false = rwith p 4 false := (fS p _ p0 p1).2.2.1
  have e4 := entered_eq p p0 p1
  have e5 := pull_eq p on p0 p1
  have e6 := flI32 p p0 p1
  have e7 : flS p 32 false = rwith p 5 false := (fS p _ p0 p1).2.1
  obtain ⟨x1, h1⟩ : ∃ x, rwith (rwith p 7 (decide (128 ≤ v))) 1 (v == 0) = x := ⟨_, rfl⟩
  obtain ⟨x2, h2⟩ : ∃ x, rwith (rwith p 5 false) 4 on = x := ⟨_, rfl⟩
  obtain ⟨x3, h3⟩ : ∃ x, rwith p 4 false = x := ⟨_, rfl⟩
  obtain ⟨x4, h4⟩ : ∃ x, rwith (rwith (rwith (rwith p 2 true) 4 false) 3 false) 5 false = x := ⟨_, rfl⟩
  obtain ⟨x5, h5⟩ : ∃ x, rwith (rwith p 5 false) 4 false = x := ⟨_, rfl⟩
  obtain ⟨x6, h6⟩ : ∃ x, rbit p 5 = x := ⟨_, rfl⟩
  obtain ⟨x7, h7⟩ : ∃ x, rwith p 5 false = x := ⟨_, rfl⟩
  rw [e2] at e5
  rw [h1] at e1
  rw [h2] at e2 e5
  rw [h3] at e3
  rw [h4] at e4
  rw [h5] at e5
  rw [h6] at e6
  rw [h7] at e7
  have HE1 := Lib.hid e1
  have HH1 := Lib.hid h1
  have HE2 := Lib.hid e2
  have HH2 := Lib.hid h2
  have HE3 := Lib.hid e3
  have HH3 := Lib.hid h3
  have HE4 := Lib.hid e4
  have HH4 := Lib.hid h4
  have HE5 := Lib.hid e5
  have HH5 := Lib.hid h5
  have HE6 := Lib.hid e6
  have HH6 := Lib.hid h6
  have HE7 := Lib.hid e7
  have HH7 := Lib.hid h7
  have HB5 := Lib.hid B5
  rw [h7] at B5
  have n1 : (x1 != x1) = false := by simp
  have n2 : (x2 != x2) = false := by simp
  have n3 : (x3 != x3) = false := by simp
  have n4 : (x4 != x4) = false := by simp
  clear hT wp wv fS B7 e1 e2 e3 e4 e5 e6 e7 h1 h2 h3 h4 h5 h6 h7
  go_enter Tryd.func7, Tryd.ntmps7
  go_wp2_with fail
  refine (live20 HT.out).mono ?_
  rintro e w0 ⟨rfl, b0⟩
  have HB := Lib.hid b0
  have HT0 := Lib.hid (HT.out.below b0)
  clear b0
  go_wp2_with fail
  refine (fbegun_any p _).mono ?_
  rw [HE7.out, HE6.out]
  rintro e w1 ⟨rfl, b⟩
  replace HT0 := Lib.hid (HT0.out.below b)
  replace HB := Lib.hid (HB.out.trans (b.mono HB.out.size))
  clear b
  go_wp2_with fail
  refine (fresult_any p v _).mono ?_
  rw [HE1.out]
  rintro e w' ⟨rfl, rfl⟩
  go_wp2_with fail
  refine (rfresult_any _ p0 p1 v).mono ?_
  rw [HH1.out]
  rintro e w2 ⟨rfl, b⟩
  replace HT0 := Lib.hid (HT0.out.below b)
  replace HB := Lib.hid (HB.out.trans (b.mono HB.out.size))
  clear b
  go_wp2_with fail
  refine (fpushed_any p on _).mono ?_
  rw [HE2.out]
  rintro e w' ⟨rfl, rfl⟩
  go_wp2_with fail
  refine (rfpushed_any _ p0 p1 on).mono ?_
  rw [HH2.out]
  rintro e w3 ⟨rfl, b⟩
  replace HT0 := Lib.hid (HT0.out.below b)
  replace HB := Lib.hid (HB.out.trans (b.mono HB.out.size))
  clear b
  go_wp2_with fail
  refine (fpulled_any p _).mono ?_
  rw [HE3.out]
  rintro e w' ⟨rfl, rfl⟩
  go_wp2_with fail
  refine (rfpulled_any _ p0 p1).mono ?_
  rw [HH3.out]
  rintro e w4 ⟨rfl, b⟩
  replace HT0 := Lib.hid (HT0.out.below b)
  replace HB := Lib.hid (HB.out.trans (b.mono HB.out.size))
  clear b
  go_wp2_with fail
  refine (fentered_any p _).mono ?_
  rw [HE4.out]
  rintro e w' ⟨rfl, rfl⟩
  go_wp2_with fail
  refine (rfentered_any _ p0 p1).mono ?_
  rw [HH4.out]
  rintro e w5 ⟨rfl, b⟩
  replace HT0 := Lib.hid (HT0.out.below b)
  replace HB := Lib.hid (HB.out.trans (b.mono HB.out.size))
  clear b
  go_wp2_with fail
  refine (fpushed_any p on _).mono ?_
  rw [HE2.out]
  rintro e w' ⟨rfl, rfl⟩
  go_wp2_with fail
  refine (fpulled_any x2 _).mono ?_
  rw [HE5.out]
  rintro e w' ⟨rfl, rfl⟩
  go_wp2_with fail
  refine (rfset_any p 5 false _ p0 p1).mono ?_
  rw [HH7.out]
  rintro e w6 ⟨rfl, b⟩
  replace HT0 := Lib.hid (HT0.out.below b)
  replace HB := Lib.hid (HB.out.trans (b.mono HB.out.size))
  clear b
  go_wp2_with fail
  refine (ris_any p 5 _ p0 p1).mono ?_
  rw [HH6.out]
  rintro e w' ⟨rfl, rfl⟩
  go_wp2_with fail
  refine (rfset_any p 5 false _ p0 p1).mono ?_
  rw [HH7.out]
  rintro e w7 ⟨rfl, b⟩
  replace HT0 := Lib.hid (HT0.out.below b)
  replace HB := Lib.hid (HB.out.trans (b.mono HB.out.size))
  clear b
  go_wp2_with fail
  refine (rfset_any x7 4 false _ B5.1 B5.2).mono ?_
  rw [show rwith x7 4 false = x5 by rw [← HH7.out]; exact HH5.out]
  rintro e w8 ⟨rfl, b⟩
  replace HT0 := Lib.hid (HT0.out.below b)
  replace HB := Lib.hid (HB.out.trans (b.mono HB.out.size))
  clear b
  go_wp2_with fail
  go_ret
  exact ⟨rfl, HB.out⟩

theorem own : ownKnob Tryd.prog.godebug = none := by kernel_rfl
theorem laidOut : laidOutB Tryd.prog = true := by kernel_rfl
theorem door_met (os : Os) (args : Array Value) : laidMetH Tryd.prog laid2 ((World.doorLaid Tryd.prog 400 os).forCall (fun _ _ => 0) ⟨#[], args, []⟩).memory :=
  laidMetH_of_parts3 (fuel := 8) (laidMet_of_run' 8 (by kernel_rfl) (by kernel_rfl)) (by kernel_rfl) (by kernel_rfl)
set_option maxRecDepth 100000 in
theorem lifted (os : Os) (started : os.Started) (H : Type) (enc : TypeId × Value → H) :
    ReturnsInHanded {} Tryd.checked os 7 .any (fun w args => (Rows.flagsMovesSpec.pre enc Tryd.prog Tryd.f7 [] false w args ∧ laidMetH Tryd.prog laid2 w) ∧ sizedMet enc Tryd.prog Tryd.f7 (OpenSpec.ofChange Rows.flagsMovesSpec) false w args)
      (Rows.flagsMovesSpec.post enc Tryd.prog Tryd.f7 false true false false) := by
  refine returnsInHanded_of_change_and (C := Tryd.checked) (X := fun w _ => laidMetH Tryd.prog laid2 w) (fun _ _ _ hh h => h.of_heap hh) own started (by kernel_rfl) Tryd.func7
    (ChangeSpec.witness_shaped (enc := enc) (C := Tryd.checked) (os := os) (X := fun w _ => laidMetH Tryd.prog laid2 w) false (World.doorLaid Tryd.prog 400 os) #[.int .u8 0, .int .u8 0, .bool false] 8 rfl (World.shaped_of_RefB (by kernel_rfl) (by kernel_rfl)) (by kernel_rfl) (by kernel_rfl) (by kernel_rfl) (door_met os _)) ?_
  intro W base args ds gs before hval0 hW _ _ hL0 _
  have hL : laidMetH Tryd.prog laid2 W := hL0
  rw [MakeChecks.laidMetH_plain _ _ _ (by kernel_rfl)] at hL
  have HT := of_laid hL
  have hval : ∀ (j : Nat) t v, Tryd.f7.params[j]? = some t → args[j]? = some v → Value.okWide Tryd.prog W .any base t v := hval0
  have hW' := hW
  obtain ⟨p, q, hA0, hV, rfl, _, _⟩ := hW
  have hA : DataW.TrodAll enc Tryd.prog W 0 (fun _ => true) true Tryd.f7.params.toList args.toList ds p := hA0
  rw [Tryd.params7] at hA hval
  obtain ⟨v0, vs0, d0, ds0, p0, q0, hargs, rfl, rfl, h0, r0⟩ := trodAll_cons hA
  obtain ⟨v1, vs1, d1, ds1, p1, q1, rfl, rfl, rfl, h1, r1⟩ := trodAll_cons r0
  obtain ⟨v2, vs2, d2, ds2, p2, q2, rfl, rfl, rfl, h2, r2⟩ := trodAll_cons r1
  obtain ⟨rfl, rfl, rfl⟩ := trodAll_nil r2
  obtain rfl : args = #[v0, v1, v2] := by cases args; simp_all
  obtain ⟨rfl, rfl⟩ := trodVars_none hV
  obtain ⟨a0, rfl, rfl, rfl, w0⟩ := open_int Tryd.underlying5 (hval 0 5 v0 rfl rfl) h0
  obtain ⟨a1, rfl, rfl, rfl, w1⟩ := open_int Tryd.underlying5 (hval 1 5 v1 rfl rfl) h1
  obtain ⟨a2, rfl, rfl, rfl⟩ := open_bool Tryd.underlying4 (hval 2 4 v2 rfl rfl) h2
  clear hA0 hval0
  refine (walk a0 w0 a1 w1 a2 W HT).mono fun e W' ⟨he, hg⟩ => ?_
  subst he
  exact ⟨_, rfl, law_post rfl Tryd.underlying4 laidOut (by kernel_rfl) rfl hW' rfl hg⟩

theorem over : Rows.flagsMovesRow.holds Tryd.pinned (OpenSpec.ofChange Rows.flagsMovesSpec) :=
  OpenClaim.holds_of_wide 7 Tryd.f7 rfl rfl rfl rfl rfl rfl rfl ⟨rfl, rfl, rfl, rfl, rfl⟩ rfl rfl rfl rfl rfl (by kernel_rfl) Tryd.func7 (by kernel_rfl)
    (of_decide_eq_true (by kernel_rfl)) (by unfold Func.isWrapper; first | (rw [if_pos (by decide +kernel)]; kernel_rfl) | (rw [if_neg (by decide +kernel)]; exact ⟨rfl, rfl⟩))
    (fun os started H enc _ => lifted os started H enc)

theorem proved : Rows.FlagsMovesCardSaid :=
  Claim7.holds_tied_plain_at .later [] [.data] true _ false
    over (fun _ h => by cases h) (by kernel_rfl) (fun _ h => by cases h) flagsMoves_row_tie rfl ⟨rfl, rfl⟩ (by kernel_rfl) rfl
    (fun f fn hf hfn => by
      obtain rfl : f = 7 := Option.some.inj ((show Tryd.prog.funcNamed "gannet/gannetlaw20.FlagsMoves" = some 7 by kernel_rfl).symm.trans hf) |>.symm
      obtain rfl : fn = Tryd.f7 := (Option.some.inj (Tryd.func7.symm.trans hfn)).symm
      exact ⟨by kernel_rfl, fun j t ht => by
        rw [Tryd.params7] at ht
        have hm : t ∈ [5, 5, 4] := by simpa using Array.mem_of_getElem? ht
        have hall : ([5, 5, 4].all fun u => !Tryd.prog.wantsStandIn u) = true := by kernel_rfl
        exact (show Tryd.prog.wantsStandIn t = false by simpa using List.all_eq_true.1 hall t hm)⟩)
    (by kernel_rfl)
#print axioms proved
end Go.Proofs.YtccimkmlbcgekaaDoor.flagsMoves
