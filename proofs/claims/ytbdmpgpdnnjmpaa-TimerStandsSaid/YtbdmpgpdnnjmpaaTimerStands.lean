/-
  For every input TimerStands returns true, and each argument reads behind the call as it read before. No conditions.
-/
import Derived.Test.YtbdmpgpdnnjmpaaRows
import Derived.Test.YtbdmpgpdnnjmpaaG3
import Derived.Test.YtbdmpgpdnnjmpaaTim6
namespace Go.Proofs.Ytbdmpgpdnnjmpaa.timerStands
open Go.ChangeShapes Go.WideShapes Go.ChangeAt Go.RowKit
open Go.ChangeMaps (open_string)

set_option linter.unusedVariables false
set_option linter.unusedSimpArgs false
set_option maxRecDepth 100000 in
set_option maxHeartbeats 8000000 in
theorem walk {W : World} (A0 : Option Addr) (n0 c0 : Nat) (z0 : Nat → Iii) (hnc0 : n0 ≤ c0) (hm0 : c0 ≤ maxLen) (R0 : FRow W 3 A0 n0 (fun i => iiiV .u8 .u8 .i64 (z0 i))) (F0 : ∀ i, i < n0 → (Lit.int .u8 (z0 i).a).wf = true ∧ (Lit.int .u8 (z0 i).b).wf = true ∧ (Lit.int .i64 (z0 i).c).wf = true) (n : Int) (wn : (Lit.int .i64 n).wf = true) :
    Calls Try.prog 6 #[.slice A0 n0 c0, .int .i64 n] W fun e w' => e = .returned (.bool true) ∧ Below W.heap.size W w' := by
  unfold maxLen at hm0
  obtain ⟨_, x1⟩ := bounds_i64 wn
  have HR0 := Lib.hid R0
  have HF0 := Lib.hid F0
  have hn0 : n0 ≤ 9223372036854775807 := by omega
  clear R0 F0 wn
  go_enter Try.func6, Try.ntmps6
  go_wp2_with fail
  refine (liveT_any _).mono ?_
  rintro e w1 ⟨rfl, hB1⟩
  have HB1 := Lib.hid hB1
  clear hB1
  go_wp2_with fail
  refine (tsmall_any (FRow.keep HR0.out HB1.out) hn0).mono ?_
  rintro e w' ⟨⟨b0, rfl, hs0⟩, rfl⟩
  have HS0 := Lib.hid hs0
  clear hs0
  cases b0 with
  | false =>
    go_wp2_with fail
    go_ret
    exact ⟨rfl, HB1.out⟩
  | true =>
  go_wp2_with fail
  refine (tnew_any _).mono ?_
  rintro e w2 ⟨rfl, t2, b2⟩
  have hg : W.heap.size ≤ w1.heap.size := HB1.out.size
  have hl2 : w1.heap.size < w2.heap.size := TM.lt t2
  have T2 : Hid (T0 w2 w1.heap.size Tm.new) := Lib.hid t2
  have HB2 := Lib.hid (HB1.out.trans (b2.mono hg))
  clear t2 b2 HB1
  generalize w1.heap.size = g at *
  go_wp2_with fail
  refine (rtnew_any _).mono ?_
  rintro e w3 ⟨rfl, t3, b3⟩
  have hr : W.heap.size ≤ w2.heap.size := HB2.out.size
  have hl3 : w2.heap.size < w3.heap.size := RTM.lt t3
  have HI3 : Hid (TPl W g w2.heap.size Tm.new w3) := Lib.hid ⟨TM.keep T2.out b3 hl2, t3, HB2.out.trans (b3.mono hr)⟩
  clear t3 b3 T2 HB2
  generalize w2.heap.size = r at *
  go_wp2_with fail
  refine (tplay_any HI3.out HR0.out HF0.out (HS0.out (by trivial)) ⟨hg, hr⟩).mono ?_
  rintro e w4 ⟨rfl, ⟨s, h4⟩, _⟩
  have T4 := Lib.hid h4.1
  have HB4 := Lib.hid h4.2.2
  clear h4 HI3
  go_wp2_with fail
  obtain ⟨gone, cc, rr, on⟩ := s
  refine (twrite_v T4.out (by omega) (by omega) (s' := ⟨gone, cc, rr, false⟩) (by kernel_rfl)).mono ?_
  rintro e w5 ⟨rfl, t5, k5⟩
  have T5 := Lib.hid t5
  have HB5 := Lib.hid (k5.onto HB4.out HB4.out.size (by simpa using hg))
  clear t5 k5 T4 HB4
  go_wp2_with fail
  refine (tcounter_v T5.out (x := cc) rfl).mono ?_
  rintro e w' ⟨rfl, rfl⟩
  go_wp2_with fail
  refine (tleft_v T5.out (x := 3072 - (gone : Int)) rfl).mono ?_
  rintro e w' ⟨rfl, rfl⟩
  go_wp2_with fail
  refine (tgo_v T5.out x1 (s' := ⟨gone, cc, rr, false⟩) (x := 0) (by rfl) (by rfl)).mono ?_
  rintro e w6 ⟨rfl, t6, k6⟩
  have T6 := Lib.hid t6
  have HB6 := Lib.hid (k6.onto HB5.out HB5.out.size (by simpa using hg))
  clear t6 k6 T5 HB5
  go_wp2_with fail
  refine (tuntil_v T6.out (v := .tuple #[.int .i64 0, .bool false]) (by rfl)).mono ?_
  rintro e w7 ⟨rfl, k7⟩
  have T7 : Hid (T0 w7 g ⟨gone, cc, rr, false⟩) := Lib.hid (TM.kp T6.out k7 (by simp))
  have HB7 := Lib.hid (k7.onto HB6.out HB6.out.size (by simp))
  have t1 : ((cc : Int) == cc) = true := by simp
  have t2 : ((3072 - (gone : Int)) == 3072 - (gone : Int)) = true := by simp
  clear k7 T6 HB6
  go_wp2_with fail
  refine (tcounter_v T7.out (x := cc) rfl).mono ?_
  rintro e w' ⟨rfl, rfl⟩
  go_wp2_with fail
  refine (tleft_v T7.out (x := 3072 - (gone : Int)) rfl).mono ?_
  rintro e w' ⟨rfl, rfl⟩
  go_wp2_with fail
  refine (ton_v T7.out (x := false) rfl).mono ?_
  rintro e w' ⟨rfl, rfl⟩
  go_wp2_with fail
  go_ret
  exact ⟨by simp, HB7.out⟩

theorem own : ownKnob Try.prog.godebug = none := by kernel_rfl
theorem laidOut : laidOutB Try.prog = true := by kernel_rfl
set_option maxRecDepth 100000 in
theorem lifted (os : Os) (started : os.Started) (H : Type) (enc : TypeId × Value → H) :
    ReturnsInHanded {} Try.checked os 6 .any (Rows.timerStandsSpec.pre6 enc Try.prog Try.f6 Rows.timerStandsRow.domain false) (Rows.timerStandsSpec.post enc Try.prog Try.f6 false true false false) := by
  refine returnsInHanded_of_change (C := Try.checked) own started (by kernel_rfl) Try.func6
    (ChangeSpec.witness6 (enc := enc) (C := Try.checked) false ⟨#[], #[.slice none 0 0, .int .i64 0], []⟩ 8 (by kernel_rfl) (by kernel_rfl) (by kernel_rfl) (by kernel_rfl)) ?_
  intro W base args ds gs before hval0 hW _ _
  have hval : ∀ (j : Nat) t v, Try.f6.params[j]? = some t → args[j]? = some v → Value.okWide Try.prog W .any base t v := hval0
  have hW' := hW
  obtain ⟨p, q, hA0, hV, rfl, _, _⟩ := hW
  have hA : DataW.TrodAll enc Try.prog W 0 (fun _ => true) true Try.f6.params.toList args.toList ds p := hA0
  rw [Try.params6] at hA hval
  obtain ⟨v0, vs0, d0, ds0, p0, q0, hargs, rfl, rfl, h0, r0⟩ := trodAll_cons hA
  obtain ⟨v1, vs1, d1, ds1, p1, q1, rfl, rfl, rfl, h1, r1⟩ := trodAll_cons r0
  obtain ⟨rfl, rfl, rfl⟩ := trodAll_nil r1
  obtain rfl : args = #[v0, v1] := by cases args; simp_all
  obtain ⟨rfl, rfl⟩ := trodVars_none hV
  obtain ⟨A0, n0, c0, z0, rfl, g0, m0, R0, F0, N0⟩ := slice_iii Try.underlying22 Try.underlying67 (by kernel_rfl) (by kernel_rfl) Try.underlying5 Try.underlying5 Try.underlying2 (hval 0 22 v0 rfl rfl) h0
  obtain ⟨a1, rfl, rfl, rfl, w1⟩ := open_int Try.underlying2 (hval 1 2 v1 rfl rfl) h1
  clear hA0 hval0
  refine (walk A0 n0 c0 z0 g0 m0 R0 F0 a1 w1).mono fun e W' ⟨he, hg⟩ => ?_
  subst he
  exact ⟨_, rfl, law_post rfl Try.underlying4 laidOut (by kernel_rfl) rfl hW' rfl hg⟩

theorem over : Rows.timerStandsRow.holds Try.pinned (OpenSpec.ofChange Rows.timerStandsSpec) :=
  OpenClaim.holds_of_wide 6 Try.f6 rfl rfl rfl rfl rfl rfl rfl ⟨rfl, rfl, rfl, rfl, rfl⟩ rfl rfl rfl rfl rfl (by kernel_rfl) Try.func6 (by kernel_rfl)
    (of_decide_eq_true (by kernel_rfl)) (by unfold Func.isWrapper; first | (rw [if_pos (by decide +kernel)]; kernel_rfl) | (rw [if_neg (by decide +kernel)]; exact ⟨rfl, rfl⟩))
    (fun os started H enc _ => lifted os started H enc)

theorem proved : Rows.TimerStandsSaid := over
#print axioms proved
end Go.Proofs.Ytbdmpgpdnnjmpaa.timerStands
