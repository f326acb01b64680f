/-
  For every input WavePlays returns true, and each argument reads behind the call as it read before. No conditions.
-/
import Derived.Test.YtcnjekballnncaaRows
import Derived.Test.YtcnjekballnncaaG3
import Derived.Test.YtcnjekballnncaaWav10
import Derived.Test.YtcnjekballnncaaWav11
namespace Go.Proofs.Ytcnjekballnncaa.wavePlays
open Go.ChangeShapes Go.WideShapes Go.ChangeAt Go.RowKit
open Go.ChangeMaps (open_string)

set_option linter.unusedVariables false
set_option linter.unusedSimpArgs false
set_option maxRecDepth 100000 in
set_option maxHeartbeats 8000000 in
theorem walk {W : World} (A1 : Option Addr) (n1 c1 : Nat) (q1 : Nat → Nat → Value) (hnc1 : n1 ≤ c1) (hm1 : c1 ≤ maxLen) (R1 : FRow W 5 A1 n1 q1) (F1 : ∀ i, i < n1 → ∀ (j : Nat) (k : FK), [FK.int .u8, .int .u8, .int .u8, .int .u16, .int .i64][j]? = some k → k.ok (q1 i j)) (A2 : Option Addr) (n2 c2 : Nat) (q2 : Nat → Nat → Value) (hnc2 : n2 ≤ c2) (hm2 : c2 ≤ maxLen) (R2 : FRow W 5 A2 n2 q2) (F2 : ∀ i, i < n2 → ∀ (j : Nat) (k : FK), [FK.int .u8, .int .u8, .int .u8, .int .u16, .int .i64][j]? = some k → k.ok (q2 i j)) :
    Calls Try.prog 8 #[.slice A1 n1 c1, .slice A2 n2 c2] W fun e w' => e = .returned (.bool true) ∧ Below W.heap.size W w' := by
  unfold maxLen at hm1 hm2
  have HR1 := Lib.hid R1
  have HR2 := Lib.hid R2
  have HF1 : Hid (StepsW n1 q1) := Lib.hid F1
  have HF2 : Hid (StepsW n2 q2) := Lib.hid F2
  clear R1 R2 F1 F2
  by_cases h1 : 60 < n1
  · have j1 : (60 : Int) < n1 := by omega
    go_enter Try.func8, Try.ntmps8
    go_wp2_with fail
    refine (liveW_any _).mono ?_
    rintro e w0 ⟨rfl, b0⟩
    have HB0 := Lib.hid b0
    clear b0
    go_wp2_with fail
    go_ret
    exact ⟨rfl, HB0.out⟩
  have j1 : ¬ (60 : Int) < n1 := by omega
  by_cases h2 : 60 < n2
  · have j2 : (60 : Int) < n2 := by omega
    go_enter Try.func8, Try.ntmps8
    go_wp2_with fail
    refine (liveW_any _).mono ?_
    rintro e w0 ⟨rfl, b0⟩
    have HB0 := Lib.hid b0
    clear b0
    go_wp2_with fail
    go_ret
    exact ⟨rfl, HB0.out⟩
  have j2 : ¬ (60 : Int) < n2 := by omega
  go_enter Try.func8, Try.ntmps8
  go_wp2_with fail
  refine (liveW_any _).mono ?_
  rintro e w0 ⟨rfl, b0⟩
  have HB0 := Lib.hid b0
  clear b0
  go_wp2_with fail
  refine (cnew_any _).mono ?_
  rintro e w1 ⟨g, rfl, hg, h1, b1⟩
  have hs0 := HB0.out.size
  have HB1 := Lib.hid (HB0.out.trans (b1.mono hs0))
  have H1 := Lib.hid h1
  have hgW : W.heap.size ≤ g := by omega
  clear h1 b1 hs0 hg HB0
  go_wp2_with fail
  refine (rcnew_any _).mono ?_
  rintro e w2 ⟨r, n, rfl, hr, h2, b2⟩
  have hs1 := HB1.out.size
  have HI2 : Hid (CPl W w2 g r n Cw.new) := Lib.hid ⟨H1.out.keep b2 H1.out.lt, h2, HB1.out.trans (b2.mono hs1), hgW, by omega, by omega⟩
  clear h2 b2 hs1 hr hgW H1 HB1
  go_wp2_with fail
  refine (cplay_any HI2.out HR1.out HF1.out (by omega)).mono ?_
  rintro e w3 ⟨rfl, ⟨x, h3⟩, _⟩
  have HI3 := Lib.hid h3
  clear h3 HI2
  go_wp2_with fail
  refine (cclone_any HI3.out.c).mono ?_
  rintro e w4 ⟨g2, rfl, hg2, h4, b4⟩
  obtain ⟨l1, l2, l3⟩ := HI3.out.lts
  have hs3 := HI3.out.bw.size
  have HI4 := Lib.hid (HI3.out.on b4)
  have H4 := Lib.hid h4
  have hs4 := b4.size
  clear h4 b4 HI3
  go_wp2_with fail
  refine (rccopy_any HI4.out.rc).mono ?_
  rintro e w5 ⟨r2, n2', rfl, hr2, h5, b5⟩
  have HI5 := Lib.hid (HI4.out.on b5)
  have HJ5 : Hid (CPl W w5 g2 r2 n2' x) := Lib.hid ⟨H4.out.keep b5 H4.out.lt, h5, HI5.out.bw, by omega, by omega, by omega⟩
  have HDJ : Hid (g ∉ [g2, r2, n2'] ∧ r ∉ [g2, r2, n2'] ∧ n ∉ [g2, r2, n2']) := Lib.hid (by simp; omega)
  have HLO : Hid (∀ z ∈ [g2, r2, n2'], W.heap.size ≤ z) := Lib.hid (by simp; omega)
  clear h5 b5 H4 HI4 hr2 hg2 l1 l2 l3 hs3 hs4
  go_wp2_with fail
  refine (cplay_any HJ5.out HR2.out HF2.out (by omega)).mono ?_
  rintro e w6 ⟨rfl, _, k6⟩
  have HI6 := Lib.hid (HI5.out.kpn k6 HDJ.out HLO.out)
  clear k6 HI5 HJ5
  go_wp2_with fail
  refine (alike_any HI6.out).mono ?_
  rintro e w7 ⟨rfl, b7⟩
  have HI7 := Lib.hid (HI6.out.on b7)
  clear b7 HI6
  go_wp2_with fail
  go_ret
  exact ⟨rfl, HI7.out.bw⟩

theorem own : ownKnob Try.prog.godebug = none := by kernel_rfl
theorem laidOut : laidOutB Try.prog = true := by kernel_rfl
set_option maxRecDepth 100000 in
theorem lifted (os : Os) (started : os.Started) (H : Type) (enc : TypeId × Value → H) :
    ReturnsInHanded {} Try.checked os 8 .any (Rows.wavePlaysSpec.pre6 enc Try.prog Try.f8 Rows.wavePlaysRow.domain false) (Rows.wavePlaysSpec.post enc Try.prog Try.f8 false true false false) := by
  refine returnsInHanded_of_change (C := Try.checked) own started (by kernel_rfl) Try.func8
    (ChangeSpec.witness6 (enc := enc) (C := Try.checked) false ⟨#[], #[.slice none 0 0, .slice none 0 0], []⟩ 8 (by kernel_rfl) (by kernel_rfl) (by kernel_rfl) (by kernel_rfl)) ?_
  intro W base args ds gs before hval0 hW _ _
  have hval : ∀ (j : Nat) t v, Try.f8.params[j]? = some t → args[j]? = some v → Value.okWide Try.prog W .any base t v := hval0
  have hW' := hW
  obtain ⟨p, q, hA0, hV, rfl, _, _⟩ := hW
  have hA : DataW.TrodAll enc Try.prog W 0 (fun _ => true) true Try.f8.params.toList args.toList ds p := hA0
  rw [Try.params8] at hA hval
  obtain ⟨v0, vs0, d0, ds0, p0, q0, hargs, rfl, rfl, h0, r0⟩ := trodAll_cons hA
  obtain ⟨v1, vs1, d1, ds1, p1, q1, rfl, rfl, rfl, h1, r1⟩ := trodAll_cons r0
  obtain ⟨rfl, rfl, rfl⟩ := trodAll_nil r1
  obtain rfl : args = #[v0, v1] := by cases args; simp_all
  obtain ⟨rfl, rfl⟩ := trodVars_none hV
  obtain ⟨A0, n0, c0, q0, rfl, g0, m0, R0, F0, N0⟩ := slice_fk _ [.int .u8, .int .u8, .int .u8, .int .u16, .int .i64] Try.underlying46 Try.underlying85 (by kernel_rfl) (by kernel_rfl) rfl (by decide)
    (fun j k h => match j, h with
      | 0, h => by cases h; exact ⟨_, rfl, Try.underlying5⟩
      | 1, h => by cases h; exact ⟨_, rfl, Try.underlying5⟩
      | 2, h => by cases h; exact ⟨_, rfl, Try.underlying5⟩
      | 3, h => by cases h; exact ⟨_, rfl, Try.underlying23⟩
      | 4, h => by cases h; exact ⟨_, rfl, Try.underlying3⟩
      | j + 5, h => by simp at h) (hval 0 46 v0 rfl rfl) h0
  obtain ⟨A1, n1, c1, q1, rfl, g1, m1, R1, F1, N1⟩ := slice_fk _ [.int .u8, .int .u8, .int .u8, .int .u16, .int .i64] Try.underlying46 Try.underlying85 (by kernel_rfl) (by kernel_rfl) rfl (by decide)
    (fun j k h => match j, h with
      | 0, h => by cases h; exact ⟨_, rfl, Try.underlying5⟩
      | 1, h => by cases h; exact ⟨_, rfl, Try.underlying5⟩
      | 2, h => by cases h; exact ⟨_, rfl, Try.underlying5⟩
      | 3, h => by cases h; exact ⟨_, rfl, Try.underlying23⟩
      | 4, h => by cases h; exact ⟨_, rfl, Try.underlying3⟩
      | j + 5, h => by simp at h) (hval 1 46 v1 rfl rfl) h1
  clear hA0 hval0
  refine (walk A0 n0 c0 q0 g0 m0 R0 F0 A1 n1 c1 q1 g1 m1 R1 F1).mono fun e W' ⟨he, hg⟩ => ?_
  subst he
  exact ⟨_, rfl, law_post rfl Try.underlying4 laidOut (by kernel_rfl) rfl hW' rfl hg⟩

theorem over : Rows.wavePlaysRow.holds Try.pinned (OpenSpec.ofChange Rows.wavePlaysSpec) :=
  OpenClaim.holds_of_wide 8 Try.f8 rfl rfl rfl rfl rfl rfl rfl ⟨rfl, rfl, rfl, rfl, rfl⟩ rfl rfl rfl rfl rfl (by kernel_rfl) Try.func8 (by kernel_rfl)
    (of_decide_eq_true (by kernel_rfl)) (by unfold Func.isWrapper; first | (rw [if_pos (by decide +kernel)]; kernel_rfl) | (rw [if_neg (by decide +kernel)]; exact ⟨rfl, rfl⟩))
    (fun os started H enc _ => lifted os started H enc)

theorem proved : Rows.WavePlaysSaid := over
#print axioms proved
end Go.Proofs.Ytcnjekballnncaa.wavePlays
