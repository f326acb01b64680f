/-
  For every input MixSums returns true, and each argument reads behind the call as it read before. The one condition: when the call begins the package-level variables that the row lists hold what the program lays in them (TIED: the card shows it of the text of the project, pruned to the packages that this seat loads).
-/
import Derived.Test.YtaamfcbpelbboaaDoorRows
import Derived.Test.YtaamfcbpelbboaaDoorG3
import Derived.SevenTiedAt
import Derived.ProofKit
import Derived.LaidMore
import Derived.OpenShut
import Derived.Stop.Joined
import Derived.Test.YtaamfcbpelbboaaDoorCards
import Derived.Test.YtaamfcbpelbboaaDoorTie
import Derived.Test.YtaamfcbpelbboaaDoorLaid8
namespace Go.Proofs.YtaamfcbpelbboaaDoor.mixSums
open Go.ChangeShapes Go.WideShapes Go.ChangeAt Go.RowKit
open Go.ChangeMaps (open_string)

theorem part_left (v : Nat → Vc) (m : Int) (n : Nat) : sumTo (fun i => (v i).part false m) n = lefts v m n := rfl
theorem part_right (v : Nat → Vc) (m : Int) (n : Nat) : sumTo (fun i => (v i).part true m) n = rights v m n := rfl
theorem part_one (x : Vc) (s : Bool) (m : Int) : sumTo (fun _ => x.part s m) 1 = x.part s m := by simp [sumTo]

set_option linter.unusedVariables false
set_option linter.unusedSimpArgs false
set_option maxRecDepth 100000 in
set_option maxHeartbeats 8000000 in
theorem walk {W : World} (A0 : Option Addr) (n0 c0 : Nat) (q0 : Nat → Nat → Value) (hnc : n0 ≤ c0) (hm : c0 ≤ maxLen) (R0 : FRow W 4 A0 n0 q0) (F0 : ∀ i, i < n0 → ∀ (j : Nat) (k : FK), [FK.int .u8, .int .u8, .int .u8, .int .u8][j]? = some k → k.ok (q0 i j)) (l : Int) (wl : (Lit.int .u8 l).wf = true) (r : Int) (wr : (Lit.int .u8 r).wf = true) (hT : Tabs W) :
    Calls Tryd.prog 4 #[.slice A0 n0 c0, .int .u8 l, .int .u8 r] W fun e w' => e = .returned (.bool true) ∧ Below W.heap.size W w' := by
  unfold maxLen at hm
  obtain ⟨l0, l1⟩ := bounds_u8 wl
  obtain ⟨r0, r1⟩ := bounds_u8 wr
  obtain ⟨v, hv⟩ := vr_of R0 F0
  have HV := Lib.hid hv
  have HT := Lib.hid hT
  clear hT wl wr R0 F0 hv
  by_cases h1 : 300 < n0
  · have j1 : (300 : Int) < n0 := by omega
    go_enter Tryd.func4, Tryd.ntmps4
    go_wp2_with fail
    refine (liveM_any HT.out).mono ?_
    rintro e w0 ⟨rfl, b0⟩
    have HB0 := Lib.hid b0
    clear b0
    go_wp2_with fail
    go_ret
    exact ⟨rfl, HB0.out⟩
  have j1 : ¬ (300 : Int) < n0 := by omega
  have HN := Lib.hid (show n0 ≤ 300 by omega)
  go_enter Tryd.func4, Tryd.ntmps4
  go_wp2_with fail
  refine (liveM_any HT.out).mono ?_
  rintro e w0 ⟨rfl, b0⟩
  have HB0 := Lib.hid b0
  clear b0
  go_wp2_with fail
  refine (all_any (HT.out.keep HB0.out).1 (HV.out.keep HB0.out) HN.out l r l0 l1 r0 r1).mono ?_
  rintro e w1 ⟨rfl, b1⟩
  have HB1 := Lib.hid (Below.trans HB0.out (b1.mono HB0.out.size))
  clear b1 HB0
  go_wp2_with fail
  refine (sum_any (HV.out.keep HB1.out) HN.out l l0 l1 false).mono ?_
  rw [part_left]
  rintro e w2 ⟨rfl, b2⟩
  have HB2 := Lib.hid (Below.trans HB1.out (b2.mono HB1.out.size))
  clear b2 HB1
  go_wp2_with fail
  refine (sum_any (HV.out.keep HB2.out) HN.out r r0 r1 true).mono ?_
  rw [part_right]
  rintro e w3 ⟨rfl, b3⟩
  have HB3 := Lib.hid (Below.trans HB2.out (b3.mono HB2.out.size))
  clear b3 HB2
  go_wp2_with fail
  go_loopw [9] (fun i wr => ∃ k : Nat, k ≤ n0 ∧ i = .int .i64 k ∧ Below W.heap.size W wr) (fun i _ => n0 - (intOf i).toNat)
  case atStart => exact ⟨0, by omega, rfl, HB3.out⟩
  case round =>
    obtain ⟨k, hk, rfl, hB⟩ := hrel
    have HB := Lib.hid hB
    clear hB
    by_cases hlt : k < n0
    · have i0 : (0 : Int) ≤ (k : Int) := by omega
      have i1 : (k : Int) < n0 := by omega
      have i2 : (k : Int) < c0 := by omega
      have i3 : (k : Int) + 1 ≤ c0 := by omega
      obtain ⟨ad, rfl, hl, q0, q1, q2, q3, hok⟩ := (HV.out.keep HB.out).at_ k hlt
      have HO := Lib.hid hok
      clear hl hok
      go_wp2_with fail
      refine (one_any (HT.out.keep HB.out).1 (v k) HO.out l r l0 l1 r0 r1).mono ?_
      rintro e w4 ⟨rfl, b4⟩
      have HB4 := Lib.hid (Below.trans HB.out (b4.mono HB.out.size))
      clear b4 q0 q1 q2 q3 HB
      go_wp2_with fail
      refine (sum_any (n := 1) (v := fun _ => v k) ((HV.out.keep HB4.out).sub k hlt) (by omega) l l0 l1 false).mono ?_
      rw [part_one]
      rintro e w5 ⟨rfl, b5⟩
      have HB5 := Lib.hid (Below.trans HB4.out (b5.mono HB4.out.size))
      clear b5 HB4
      have e5 : ((v k).part false l) = (v k).left l := rfl
      rw [e5]
      go_wp2_with fail
      refine (sum_any (n := 1) (v := fun _ => v k) ((HV.out.keep HB5.out).sub k hlt) (by omega) r r0 r1 true).mono ?_
      rw [part_one]
      rintro e w6 ⟨rfl, b6⟩
      have HB6 := Lib.hid (Below.trans HB5.out (b6.mono HB5.out.size))
      clear b6 HB5
      have e6 : ((v k).part true r) = (v k).right r := rfl
      rw [e6]
      go_wp2_with fail
      go_roundw
      case rel => exact ⟨k + 1, by omega, by go_num, HB6.out⟩
      case measure => simp [intOf]; omega
    · have i1 : ¬ (k : Int) < n0 := by omega
      go_wp2_with fail
      go_ret
      exact ⟨rfl, HB.out⟩

theorem own : ownKnob Tryd.prog.godebug = none := by kernel_rfl
theorem laidOut : laidOutB Tryd.prog = true := by kernel_rfl
theorem door_met (os : Os) (args : Array Value) : laidMetH Tryd.prog laid2 ((World.doorLaid Tryd.prog 400 os).forCall (fun _ _ => 0) ⟨#[], args, []⟩).memory :=
  laidMetH_of_parts3 (fuel := 8) (laidMet_of_run' 8 (by kernel_rfl) (by kernel_rfl)) (by kernel_rfl) (by kernel_rfl)
set_option maxRecDepth 100000 in
theorem lifted (os : Os) (started : os.Started) (H : Type) (enc : TypeId × Value → H) :
    ReturnsInHanded {} Tryd.checked os 4 .any (fun w args => (Rows.mixSumsSpec.pre enc Tryd.prog Tryd.f4 [] false w args ∧ laidMetH Tryd.prog laid2 w) ∧ sizedMet enc Tryd.prog Tryd.f4 (OpenSpec.ofChange Rows.mixSumsSpec) false w args)
      (Rows.mixSumsSpec.post enc Tryd.prog Tryd.f4 false true false false) := by
  refine returnsInHanded_of_change_and (C := Tryd.checked) (X := fun w _ => laidMetH Tryd.prog laid2 w) (fun _ _ _ hh h => h.of_heap hh) own started (by kernel_rfl) Tryd.func4
    (ChangeSpec.witness_shaped (enc := enc) (C := Tryd.checked) (os := os) (X := fun w _ => laidMetH Tryd.prog laid2 w) false (World.doorLaid Tryd.prog 400 os) #[.slice none 0 0, .int .u8 0, .int .u8 0] 8 rfl (World.shaped_of_RefB (by kernel_rfl) (by kernel_rfl)) (by kernel_rfl) (by kernel_rfl) (by kernel_rfl) (door_met os _)) ?_
  intro W base args ds gs before hval0 hW _ _ hL0 _
  have hL : laidMetH Tryd.prog laid2 W := hL0
  rw [MakeChecks.laidMetH_plain _ _ _ (by kernel_rfl)] at hL
  have HT := of_laid hL
  have hval : ∀ (j : Nat) t v, Tryd.f4.params[j]? = some t → args[j]? = some v → Value.okWide Tryd.prog W .any base t v := hval0
  have hW' := hW
  obtain ⟨p, q, hA0, hV, rfl, _, _⟩ := hW
  have hA : DataW.TrodAll enc Tryd.prog W 0 (fun _ => true) true Tryd.f4.params.toList args.toList ds p := hA0
  rw [Tryd.params4] at hA hval
  obtain ⟨v0, vs0, d0, ds0, p0, q0, hargs, rfl, rfl, h0, r0⟩ := trodAll_cons hA
  obtain ⟨v1, vs1, d1, ds1, p1, q1, rfl, rfl, rfl, h1, r1⟩ := trodAll_cons r0
  obtain ⟨v2, vs2, d2, ds2, p2, q2, rfl, rfl, rfl, h2, r2⟩ := trodAll_cons r1
  obtain ⟨rfl, rfl, rfl⟩ := trodAll_nil r2
  obtain rfl : args = #[v0, v1, v2] := by cases args; simp_all
  obtain ⟨rfl, rfl⟩ := trodVars_none hV
  obtain ⟨A0, n0, c0, q0, rfl, g0, m0, R0, F0, N0⟩ := slice_fk _ [.int .u8, .int .u8, .int .u8, .int .u8] Tryd.underlying26 Tryd.underlying32 (by kernel_rfl) (by kernel_rfl) rfl (by decide)
    (fun j k h => match j, h with
      | 0, h => by cases h; exact ⟨_, rfl, Tryd.underlying5⟩
      | 1, h => by cases h; exact ⟨_, rfl, Tryd.underlying5⟩
      | 2, h => by cases h; exact ⟨_, rfl, Tryd.underlying5⟩
      | 3, h => by cases h; exact ⟨_, rfl, Tryd.underlying5⟩
      | j + 4, h => by simp at h) (hval 0 26 v0 rfl rfl) h0
  obtain ⟨a1, rfl, rfl, rfl, w1⟩ := open_int Tryd.underlying5 (hval 1 5 v1 rfl rfl) h1
  obtain ⟨a2, rfl, rfl, rfl, w2⟩ := open_int Tryd.underlying5 (hval 2 5 v2 rfl rfl) h2
  clear hA0 hval0
  refine (walk A0 n0 c0 q0 g0 m0 R0 F0 a1 w1 a2 w2 HT).mono fun e W' ⟨he, hg⟩ => ?_
  subst he
  exact ⟨_, rfl, law_post rfl Tryd.underlying4 laidOut (by kernel_rfl) rfl hW' rfl hg⟩

theorem over : Rows.mixSumsRow.holds Tryd.pinned (OpenSpec.ofChange Rows.mixSumsSpec) :=
  OpenClaim.holds_of_wide 4 Tryd.f4 rfl rfl rfl rfl rfl rfl rfl ⟨rfl, rfl, rfl, rfl, rfl⟩ rfl rfl rfl rfl rfl (by kernel_rfl) Tryd.func4 (by kernel_rfl)
    (of_decide_eq_true (by kernel_rfl)) (by unfold Func.isWrapper; first | (rw [if_pos (by decide +kernel)]; kernel_rfl) | (rw [if_neg (by decide +kernel)]; exact ⟨rfl, rfl⟩))
    (fun os started H enc _ => lifted os started H enc)

theorem proved : Rows.MixSumsCardSaid :=
  Claim7.holds_tied_plain_at .later [] [.data, .data] true _ false
    over (fun _ h => by cases h) (by kernel_rfl) (fun _ h => by cases h) mixSums_row_tie rfl ⟨rfl, rfl⟩ (by kernel_rfl) rfl
    (fun f fn hf hfn => by
      obtain rfl : f = 4 := Option.some.inj ((show Tryd.prog.funcNamed "gannet/gannetlaw16.MixSums" = some 4 by kernel_rfl).symm.trans hf) |>.symm
      obtain rfl : fn = Tryd.f4 := (Option.some.inj (Tryd.func4.symm.trans hfn)).symm
      exact ⟨by kernel_rfl, fun j t ht => by
        rw [Tryd.params4] at ht
        have hm : t ∈ [26, 5, 5] := by simpa using Array.mem_of_getElem? ht
        have hall : ([26, 5, 5].all fun u => !Tryd.prog.wantsStandIn u) = true := by kernel_rfl
        exact (show Tryd.prog.wantsStandIn t = false by simpa using List.all_eq_true.1 hall t hm)⟩)
    (by kernel_rfl)
#print axioms proved
end Go.Proofs.YtaamfcbpelbboaaDoor.mixSums
