/-
  For every input PortClears returns true, and each argument reads behind the call as it read before. No conditions.
-/
import Derived.Test.YtbdmpgpdnnjmpaaRows
import Derived.Test.YtbdmpgpdnnjmpaaG3
import Derived.Test.YtbdmpgpdnnjmpaaPort4
import Derived.Deep.Cut
import Derived.Deep.CutRange
import Derived.Deep.RegionHeld3
import Derived.Deep.RegionWith
import Derived.RegionTactic
import Derived.BigRegion
import Derived.LoopTactic
namespace Go.Proofs.Ytbdmpgpdnnjmpaa.portClears
open Go.ChangeShapes Go.WideShapes Go.ChangeAt Go.RowKit
open Go.ChangeMaps (open_string)

set_option linter.unusedVariables false
set_option linter.unusedSimpArgs false
set_option maxRecDepth 100000 in
set_option maxHeartbeats 8000000 in
theorem walk {W : World} (A0 : Option Addr) (n0 c0 : Nat) (z0 : Nat → Bool × Int) (hnc0 : n0 ≤ c0) (hm0 : c0 ≤ maxLen) (R0 : FRow W 2 A0 n0 (fun i => biV .u8 (z0 i))) (F0 : ∀ i, i < n0 → (Lit.int .u8 (z0 i).2).wf = true) (v : Int) (wv : (Lit.int .u8 v).wf = true) :
    Calls Try.prog 8 #[.slice A0 n0 c0, .int .u8 v] W fun e w' => e = .returned (.bool true) ∧ Below W.heap.size W w' := by
  unfold maxLen at hm0
  have HR := Lib.hid R0
  have HF := Lib.hid F0
  obtain ⟨v0, v1⟩ := bounds_u8 wv
  obtain ⟨v, rfl⟩ := Int.eq_ofNat_of_zero_le v0
  clear R0 F0 wv v0
  by_cases g1 : 200 < n0
  · have i1 : (200 : Int) < n0 := by omega
    go_enter Try.func8, Try.ntmps8
    go_wp2_with (go_at_call 23; refine (liveP_any _).mono ?_; rintro e w1 ⟨rfl, hB⟩)
    go_ret
    exact ⟨rfl, hB⟩
  have i1 : ¬ (200 : Int) < n0 := by omega
  obtain ⟨V, hV⟩ : ∃ V, min v 5 = V := ⟨_, rfl⟩
  have eV : (if (5 : Int) < (v : Int) then 5 else (v : Int)) = (V : Int) := by split <;> omega
  have HV := Lib.hid hV
  have EV := Lib.hid eV
  clear hV eV
  go_enter Try.func8, Try.ntmps8
  go_wp2_with fail
  refine (liveP_any _).mono ?_
  rintro e w1 ⟨rfl, hB1⟩
  have HB1 := Lib.hid hB1
  clear hB1
  go_wp2_with fail
  refine (pnew_any none 0 0 (fun _ => 0) (fun _ => ⟨rfl, rfl⟩) (by omega) (fun i hi => absurd hi (by omega))).mono ?_
  rintro e w2 ⟨g, cb, rfl, h1, h2, t2, b2⟩
  have s1 := HB1.out.size
  have s2 := b2.size
  have T2 : Hid (PB W.heap.size W g cb 0 (fun _ => 0) 0 ⟨0, 0⟩ w2) := Lib.hid ⟨t2, HB1.out.trans (b2.mono s1), by omega, by omega, by omega⟩
  clear t2 b2 HB1 h1 h2 s1 s2
  go_wp2_with fail
  go_loopw [6] (fun i wr => ∃ k : Nat, k ≤ n0 ∧ i = .int .i64 k ∧ ∃ s, PB W.heap.size W g cb 0 (fun _ => 0) 0 s wr) (fun i _ => n0 - (intOf i).toNat)
  case atStart => exact ⟨0, Nat.zero_le _, rfl, _, T2.out⟩
  case round =>
    obtain ⟨k, hk, rfl, s, hT⟩ := hrel
    have HT := Lib.hid hT
    by_cases hlt : k < n0
    · obtain ⟨ad, rfl, hl, e0, e1⟩ := pstepCells (FRow.keep HR.out hT.2.1) k hlt
      obtain ⟨b0, b1⟩ := bounds_u8 (HF.out k hlt)
      generalize (z0 k).1 = wrt at *
      generalize (z0 k).2 = b at *
      have i2 : (0 : Int) ≤ (k : Int) := by omega
      have i3 : (k : Int) < n0 := by omega
      clear hT T2
      go_wp2_with fail
      refine (pwrite_v HT.out.1 b0 b1 rfl).mono ?_
      rintro e w3 ⟨rfl, t3, k3⟩
      have T3 := Lib.hid (HT.out.go t3 k3 (by simp))
      clear t3 k3 e0 e1
      go_wp2_with fail
      go_roundw
      case rel => exact ⟨k + 1, by omega, by go_num, _, T3.out⟩
      case measure => simp [intOf]; omega
    · obtain rfl : k = n0 := by omega
      clear hT T2
      go_wp2_with fail
      refine (pwrite_v HT.out.1 (by omega) (by omega) (s' := ⟨2, 0⟩) (by rfl)).mono ?_
      rintro e w3 ⟨rfl, t3, k3⟩
      have T3 := Lib.hid (HT.out.go t3 k3 (by simp))
      clear t3 k3 HT
      go_wp2_with fail
      refine (ppad_v T3.out.1 (x := 0) rfl).mono ?_
      rintro e w' ⟨rfl, rfl⟩
      go_wp2_with fail
      refine (pread_v T3.out.1 (by omega) (x := 176) (q' := 0) (by kernel_rfl) (by decide)).mono ?_
      rintro e w4 ⟨rfl, t4, k4⟩
      have T4 := Lib.hid (T3.out.go t4 k4 (by simp))
      clear t4 k4 T3
      go_wp2_with fail
      go_loopw [7] (fun i wr => ∃ j : Nat, j ≤ v ∧ i = .int .i64 j ∧ ∃ l, PB W.heap.size W g cb 0 (fun _ => 0) 0 ⟨l, min j 5⟩ wr) (fun i _ => v - (intOf i).toNat)
      case atStart => exact ⟨0, Nat.zero_le _, rfl, _, T4.out⟩
      case round =>
        obtain ⟨j, hj, rfl, l, hT⟩ := hrel
        have HT := Lib.hid hT
        clear hT T4
        by_cases hjt : j < v
        · have j1 : (j : Int) < v := by omega
          go_wp2_with fail
          refine (pwrite_v HT.out.1 (by omega) (by omega) (s' := ⟨0, min j 5⟩) (by rfl)).mono ?_
          rintro e w5 ⟨rfl, t5, k5⟩
          have T5 := Lib.hid (HT.out.go t5 k5 (by simp))
          clear t5 k5 HT
          go_wp2_with fail
          refine (pwrite_v T5.out.1 (by omega) (by omega) (s' := ⟨1, min (j + 1) 5⟩) (by
            show (if 2 ≤ 1 then _ else if 1 = 1 ∧ 0 % 2 = 0 then (⟨1, min (min j 5 + 1) 5⟩ : Pt) else _) = _
            rw [if_neg (by omega), if_pos (by omega)]
            congr 1
            omega)).mono ?_
          rintro e w6 ⟨rfl, t6, k6⟩
          have T6 := Lib.hid (T5.out.go t6 k6 (by simp))
          clear t6 k6 T5
          go_wp2_with fail
          refine (pwrite_v T6.out.1 (by omega) (by omega) (s' := ⟨1, min (j + 1) 5⟩) (by
            show (if 2 ≤ 1 then _ else if 1 = 1 ∧ 1 % 2 = 0 then _ else (⟨1, min (j + 1) 5⟩ : Pt)) = _
            rw [if_neg (by omega), if_neg (by omega)])).mono ?_
          rintro e w7 ⟨rfl, t7, k7⟩
          have T7 := Lib.hid (T6.out.go t7 k7 (by simp))
          clear t7 k7 T6
          go_wp2_with fail
          go_roundw
          case rel => exact ⟨j + 1, by omega, by go_num, _, T7.out⟩
          case measure => simp [intOf]; omega
        · obtain rfl : j = v := by omega
          have eV := EV.out
          go_wp2_with fail
          refine (ppad_v HT.out.1 (x := (V : Int)) (by rw [← HV.out])).mono ?_
          rintro e w' ⟨rfl, rfl⟩
          go_wp2_with fail
          go_ret
          exact ⟨by simp, HT.out.2.1⟩

theorem own : ownKnob Try.prog.godebug = none := by kernel_rfl
theorem laidOut : laidOutB Try.prog = true := by kernel_rfl
set_option maxRecDepth 100000 in
theorem lifted (os : Os) (started : os.Started) (H : Type) (enc : TypeId × Value → H) :
    ReturnsInHanded {} Try.checked os 8 .any (Rows.portClearsSpec.pre6 enc Try.prog Try.f8 Rows.portClearsRow.domain false) (Rows.portClearsSpec.post enc Try.prog Try.f8 false true false false) := by
  refine returnsInHanded_of_change (C := Try.checked) own started (by kernel_rfl) Try.func8
    (ChangeSpec.witness6 (enc := enc) (C := Try.checked) false ⟨#[], #[.slice none 0 0, .int .u8 0], []⟩ 8 (by kernel_rfl) (by kernel_rfl) (by kernel_rfl) (by kernel_rfl)) ?_
  intro W base args ds gs before hval0 hW _ _
  have hval : ∀ (j : Nat) t v, Try.f8.params[j]? = some t → args[j]? = some v → Value.okWide Try.prog W .any base t v := hval0
  have hW' := hW
  obtain ⟨p, q, hA0, hV, rfl, _, _⟩ := hW
  have hA : DataW.TrodAll enc Try.prog W 0 (fun _ => true) true Try.f8.params.toList args.toList ds p := hA0
  rw [Try.params8] at hA hval
  obtain ⟨v0, vs0, d0, ds0, p0, q0, hargs, rfl, rfl, h0, r0⟩ := trodAll_cons hA
  obtain ⟨v1, vs1, d1, ds1, p1, q1, rfl, rfl, rfl, h1, r1⟩ := trodAll_cons r0
  obtain ⟨rfl, rfl, rfl⟩ := trodAll_nil r1
  obtain rfl : args = #[v0, v1] := by cases args; simp_all
  obtain ⟨rfl, rfl⟩ := trodVars_none hV
  obtain ⟨A0, n0, c0, z0, rfl, g0, m0, R0, F0⟩ := slice_bi Try.underlying45 Try.underlying61 (by kernel_rfl) (by kernel_rfl) Try.underlying4 Try.underlying5 (hval 0 45 v0 rfl rfl) h0
  obtain ⟨a1, rfl, rfl, rfl, w1⟩ := open_int Try.underlying5 (hval 1 5 v1 rfl rfl) h1
  clear hA0 hval0
  refine (walk A0 n0 c0 z0 g0 m0 R0 F0 a1 w1).mono fun e W' ⟨he, hg⟩ => ?_
  subst he
  exact ⟨_, rfl, law_post rfl Try.underlying4 laidOut (by kernel_rfl) rfl hW' rfl hg⟩

theorem over : Rows.portClearsRow.holds Try.pinned (OpenSpec.ofChange Rows.portClearsSpec) :=
  OpenClaim.holds_of_wide 8 Try.f8 rfl rfl rfl rfl rfl rfl rfl ⟨rfl, rfl, rfl, rfl, rfl⟩ rfl rfl rfl rfl rfl (by kernel_rfl) Try.func8 (by kernel_rfl)
    (of_decide_eq_true (by kernel_rfl)) (by unfold Func.isWrapper; first | (rw [if_pos (by decide +kernel)]; kernel_rfl) | (rw [if_neg (by decide +kernel)]; exact ⟨rfl, rfl⟩))
    (fun os started H enc _ => lifted os started H enc)

theorem proved : Rows.PortClearsSaid := over
#print axioms proved
end Go.Proofs.Ytbdmpgpdnnjmpaa.portClears
