/-
  For every input LatchReads returns true, and each argument reads behind the call as it read before. No conditions.
-/
import Derived.Test.YtjedlldmmnacbaaRows
import Derived.Test.YtjedlldmmnacbaaG3
import Derived.Test.YtjedlldmmnacbaaLat2
import Derived.Test.YtjedlldmmnacbaaLat5
namespace Go.Proofs.Ytjedlldmmnacbaa.latchReads
open Go.ChangeShapes Go.WideShapes Go.ChangeAt Go.RowKit
open Go.ChangeMaps (open_string)

set_option linter.unusedVariables false
set_option maxRecDepth 100000 in
set_option maxHeartbeats 4000000 in
theorem walk (a : Int) (wa : (Lit.int .u8 a).wf = true) (m : Int) (wm : (Lit.int .u8 m).wf = true) (b : Int) (wb : (Lit.int .u8 b).wf = true) (W : World) :
    Calls Try.prog 7 #[.int .u8 a, .int .u8 m, .int .u8 b] W fun e w' => e = .returned (.bool true) ∧ Below W.heap.size W w' := by
  obtain ⟨a0, a1⟩ := bounds_u8 wa
  obtain ⟨m0, m1⟩ := bounds_u8 wm
  obtain ⟨b0, b1⟩ := bounds_u8 wb
  clear wa wm wb
  obtain ⟨u, hu⟩ : ∃ u, mixI a m b = u := ⟨_, rfl⟩
  have hz : mixI u 0 b = u := by
    have h := mix_byte a m b a0 a1 m0 m1 b0 b1
    rw [hu] at h
    exact mix_zero u b h.1 h.2 b0 b1
  have HU := Lib.hid hu
  have HZ := Lib.hid hz
  clear hu hz
  go_enter Try.func7, Try.ntmps7
  go_wp2_with fail
  refine (liveL_any _).mono ?_
  rintro e w1 ⟨rfl, hB1⟩
  have s1 := hB1.size
  have HB1 := Lib.hid hB1
  clear hB1
  go_wp2_with fail
  refine (lnew_any _ _).mono ?_
  rintro e w' ⟨rfl, rfl⟩
  have h2 : LT (w1.alloc (.cells #[.int .u8 a] 77)) w1.heap.size a := Blk.new w1 _ _
  have HB2 := Lib.hid (HB1.out.alloc s1 (.cells #[.int .u8 a] 77))
  have s2 := HB2.out.size
  have H2 := Lib.hid h2
  generalize w1.alloc _ = w2 at *
  generalize w1.heap.size = g at *
  clear h2 HB1
  go_wp2_with fail
  refine (rread_any a m b _ a0 a1 m0 m1 b0 b1).mono ?_
  rw [HU.out]
  rintro e w3 ⟨rfl, h3⟩
  have HB3 := Lib.hid (HB2.out.trans (h3.mono s2))
  have H3 : Hid (LT w3 g a) := Lib.hid (Blk.below H2.out h3 H2.out.lt)
  have s3 := HB3.out.size
  clear h3 HB2 H2
  go_wp2_with fail
  refine (lread_v (u := u) H3.out HU.out).mono ?_
  rintro e w4 ⟨rfl, h4, k4⟩
  have H4 := Lib.hid h4
  have HB4 := Lib.hid (k4.onto HB3.out s3 (by simpa using s1))
  have s4 := HB4.out.size
  clear h4 k4
  go_wp2_with fail
  refine (value_any H4.out).mono ?_
  rintro e w' ⟨rfl, rfl⟩
  go_wp2_with fail
  refine (lread_v (u := u) H4.out HZ.out).mono ?_
  rintro e w5 ⟨rfl, h5, k5⟩
  have HB5 := Lib.hid (k5.onto HB4.out s4 (by simpa using s1))
  clear h5 k5
  go_wp2_with fail
  go_ret
  exact ⟨by simp, HB5.out⟩

theorem own : ownKnob Try.prog.godebug = none := by kernel_rfl
theorem laidOut : laidOutB Try.prog = true := by kernel_rfl
set_option maxRecDepth 100000 in
theorem lifted (os : Os) (started : os.Started) (H : Type) (enc : TypeId × Value → H) :
    ReturnsInHanded {} Try.checked os 7 .any (Rows.latchReadsSpec.pre6 enc Try.prog Try.f7 Rows.latchReadsRow.domain false) (Rows.latchReadsSpec.post enc Try.prog Try.f7 false true false false) := by
  refine returnsInHanded_of_change (C := Try.checked) own started (by kernel_rfl) Try.func7
    (ChangeSpec.witness6 (enc := enc) (C := Try.checked) false ⟨#[], #[.int .u8 0, .int .u8 0, .int .u8 0], []⟩ 8 (by kernel_rfl) (by kernel_rfl) (by kernel_rfl) (by kernel_rfl)) ?_
  intro W base args ds gs before hval0 hW _ _
  have hval : ∀ (j : Nat) t v, Try.f7.params[j]? = some t → args[j]? = some v → Value.okWide Try.prog W .any base t v := hval0
  have hW' := hW
  obtain ⟨p, q, hA0, hV, rfl, _, _⟩ := hW
  have hA : DataW.TrodAll enc Try.prog W 0 (fun _ => true) true Try.f7.params.toList args.toList ds p := hA0
  rw [Try.params7] at hA hval
  obtain ⟨v0, vs0, d0, ds0, p0, q0, hargs, rfl, rfl, h0, r0⟩ := trodAll_cons hA
  obtain ⟨v1, vs1, d1, ds1, p1, q1, rfl, rfl, rfl, h1, r1⟩ := trodAll_cons r0
  obtain ⟨v2, vs2, d2, ds2, p2, q2, rfl, rfl, rfl, h2, r2⟩ := trodAll_cons r1
  obtain ⟨rfl, rfl, rfl⟩ := trodAll_nil r2
  obtain rfl : args = #[v0, v1, v2] := by cases args; simp_all
  obtain ⟨rfl, rfl⟩ := trodVars_none hV
  obtain ⟨a0, rfl, rfl, rfl, w0⟩ := open_int Try.underlying5 (hval 0 5 v0 rfl rfl) h0
  obtain ⟨a1, rfl, rfl, rfl, w1⟩ := open_int Try.underlying5 (hval 1 5 v1 rfl rfl) h1
  obtain ⟨a2, rfl, rfl, rfl, w2⟩ := open_int Try.underlying5 (hval 2 5 v2 rfl rfl) h2
  clear hA0 hval0
  refine (walk a0 w0 a1 w1 a2 w2 W).mono fun e W' ⟨he, hg⟩ => ?_
  subst he
  exact ⟨_, rfl, law_post rfl Try.underlying4 laidOut (by kernel_rfl) rfl hW' rfl hg⟩

theorem over : Rows.latchReadsRow.holds Try.pinned (OpenSpec.ofChange Rows.latchReadsSpec) :=
  OpenClaim.holds_of_wide 7 Try.f7 rfl rfl rfl rfl rfl rfl rfl ⟨rfl, rfl, rfl, rfl, rfl⟩ rfl rfl rfl rfl rfl (by kernel_rfl) Try.func7 (by kernel_rfl)
    (of_decide_eq_true (by kernel_rfl)) (by unfold Func.isWrapper; first | (rw [if_pos (by decide +kernel)]; kernel_rfl) | (rw [if_neg (by decide +kernel)]; exact ⟨rfl, rfl⟩))
    (fun os started H enc _ => lifted os started H enc)

theorem proved : Rows.LatchReadsSaid := over
#print axioms proved
end Go.Proofs.Ytjedlldmmnacbaa.latchReads
