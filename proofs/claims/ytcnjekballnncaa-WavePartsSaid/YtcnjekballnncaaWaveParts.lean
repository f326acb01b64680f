/-
  For every input WaveParts returns true, and each argument reads behind the call as it read before. No conditions.
-/
import Derived.Test.YtcnjekballnncaaRows
import Derived.Test.YtcnjekballnncaaG3
import Derived.Test.YtcnjekballnncaaWav10
import Derived.Test.YtcnjekballnncaaWav11
namespace Go.Proofs.Ytcnjekballnncaa.waveParts
open Go.ChangeShapes Go.WideShapes Go.ChangeAt Go.RowKit
open Go.ChangeMaps (open_string)

set_option linter.unusedVariables false
set_option linter.unusedSimpArgs false
set_option maxRecDepth 100000 in
set_option maxHeartbeats 8000000 in
theorem walk {W : World} (A1 : Option Addr) (n1 c1 : Nat) (q1 : Nat → Nat → Value) (hnc1 : n1 ≤ c1) (hm1 : c1 ≤ maxLen) (R1 : FRow W 5 A1 n1 q1) (F1 : ∀ i, i < n1 → ∀ (j : Nat) (k : FK), [FK.int .u8, .int .u8, .int .u8, .int .u16, .int .i64][j]? = some k → k.ok (q1 i j)) (a : Int) (wa : (Lit.int .u32 a).wf = true) (b : Int) (wb : (Lit.int .u32 b).wf = true) :
    Calls Try.prog 9 #[.slice A1 n1 c1, .int .u32 a, .int .u32 b] W fun e w' => e = .returned (.bool true) ∧ Below W.heap.size W w' := by
  unfold maxLen at hm1
  obtain ⟨a0, a1⟩ := bounds_u32 wa
  obtain ⟨b0, b1⟩ := bounds_u32 wb
  obtain ⟨a, rfl⟩ := Int.eq_ofNat_of_zero_le a0
  obtain ⟨b, rfl⟩ := Int.eq_ofNat_of_zero_le b0
  have HR1 := Lib.hid R1
  have HF1 : Hid (StepsW n1 q1) := Lib.hid F1
  clear R1 F1 wa wb
  by_cases h1 : 60 < n1
  · have j1 : (60 : Int) < n1 := by omega
    go_enter Try.func9, Try.ntmps9
    go_wp2_with fail
    refine (liveW_any _).mono ?_
    rintro e w0 ⟨rfl, b0⟩
    have HB0 := Lib.hid b0
    clear b0
    go_wp2_with fail
    go_ret
    exact ⟨rfl, HB0.out⟩
  have j1 : ¬ (60 : Int) < n1 := by omega
  obtain ⟨s, hs⟩ : ∃ s : Nat, a + b = s := ⟨_, rfl⟩
  have hwa : IntKind.i64.wrap (a : Int) = a := IntWalk.i64_in _ (by omega)
  have hwb : IntKind.i64.wrap (b : Int) = b := IntWalk.i64_in _ (by omega)
  have hws : IntKind.i64.wrap ((a : Int) + (b : Int)) = (s : Int) := by rw [← hs, IntWalk.i64_in _ (by omega)]; omega
  have HS := Lib.hid hs
  clear hs
  go_enter Try.func9, Try.ntmps9
  go_wp2_with fail
  refine (liveW_any _).mono ?_
  rintro e w0 ⟨rfl, b0⟩
  have HB0 := Lib.hid b0
  clear b0
  go_wp2_with fail
  refine (cnew_any _).mono ?_
  rintro e w1 ⟨g, rfl, hg, h1, b1⟩
  have hs0 := HB0.out.size
  have HB1 := Lib.hid (HB0.out.trans (b1.mono hs0))
  have H1 := Lib.hid h1
  have hgW : W.heap.size ≤ g := by omega
  clear h1 b1 hs0 hg HB0
  go_wp2_with fail
  refine (rcnew_any _).mono ?_
  rintro e w2 ⟨r, n, rfl, hr, h2, b2⟩
  have hs1 := HB1.out.size
  have HI2 : Hid (CPl W w2 g r n Cw.new) := Lib.hid ⟨H1.out.keep b2 H1.out.lt, h2, HB1.out.trans (b2.mono hs1), hgW, by omega, by omega⟩
  clear h2 b2 hs1 hr hgW H1 HB1
  go_wp2_with fail
  refine (cplay_any HI2.out HR1.out HF1.out (by omega)).mono ?_
  rintro e w3 ⟨rfl, ⟨x, h3⟩, _⟩
  have HI3 := Lib.hid h3
  clear h3 HI2
  go_wp2_with fail
  refine (cclone_any HI3.out.c).mono ?_
  rintro e w4 ⟨g2, rfl, hg2, h4, b4⟩
  obtain ⟨l1, l2, l3⟩ := HI3.out.lts
  have hs3 := HI3.out.bw.size
  have HI4 := Lib.hid (HI3.out.on b4)
  have H4 := Lib.hid h4
  have hs4 := b4.size
  clear h4 b4 HI3
  go_wp2_with fail
  have hs := HS.out
  have HOK : Hid x.ok := Lib.hid HI4.out.c.2
  refine (cgo_any HI4.out.c s (by omega)).mono ?_
  rintro e w5 ⟨rfl, h5, k5⟩
  have H5 := Lib.hid h5
  have HD5 := Lib.hid (H4.out.kp k5 (by simp; omega))
  have HB5 := Lib.hid (k5.onto HI4.out.bw HI4.out.bw.size (by simpa using HI4.out.lo.1))
  clear h5 k5 HI4 H4
  go_wp2_with fail
  refine (cgo_any HD5.out a (by omega)).mono ?_
  rintro e w6 ⟨rfl, h6, k6⟩
  have H6 := Lib.hid h6
  have HC6 := Lib.hid (H5.out.kp k6 (by simp; omega))
  have HB6 := Lib.hid (k6.onto HB5.out HB5.out.size (by simp; omega))
  clear h6 k6 H5 HD5 HB5
  go_wp2_with fail
  refine (cgo_any H6.out b (by omega)).mono ?_
  rintro e w7 ⟨rfl, h7, k7⟩
  rw [← Cw.go_add HOK.out, hs] at h7
  have H7 := Lib.hid h7
  have HC7 := Lib.hid (HC6.out.kp k7 (by simp; omega))
  have HB7 := Lib.hid (k7.onto HB6.out HB6.out.size (by simp; omega))
  clear h7 k7 H6 HC6 HB6
  generalize x.go s = y at *
  obtain ⟨v1, hv1⟩ : ∃ v, (y.pl : Int) = v := ⟨_, rfl⟩
  obtain ⟨v2, hv2⟩ : ∃ v, (y.left : Int) = v := ⟨_, rfl⟩
  obtain ⟨v3, hv3⟩ : ∃ v, y.lvl = v := ⟨_, rfl⟩
  have V1 := Lib.hid hv1
  have V2 := Lib.hid hv2
  have V3 := Lib.hid hv3
  have m1 : (v1 == v1) = true := by simp
  have m2 : (v2 == v2) = true := by simp
  have m3 : (v3 == v3) = true := by simp
  clear hv1 hv2 hv3
  go_wp2_with fail
  refine (cplace_v HC7.out V1.out).mono ?_
  rintro e w' ⟨rfl, rfl⟩
  go_wp2_with fail
  refine (cplace_v H7.out V1.out).mono ?_
  rintro e w' ⟨rfl, rfl⟩
  go_wp2_with fail
  refine (cuntil_v HC7.out V2.out).mono ?_
  rintro e w' ⟨rfl, rfl⟩
  go_wp2_with fail
  refine (cuntil_v H7.out V2.out).mono ?_
  rintro e w' ⟨rfl, rfl⟩
  go_wp2_with fail
  refine (clevel_v HC7.out V3.out).mono ?_
  rintro e w8 ⟨rfl, b8⟩
  have H8 := Lib.hid (H7.out.keep b8 H7.out.lt)
  have HB8 := Lib.hid (HB7.out.trans (b8.mono HB7.out.size))
  clear b8 H7 HC7 HB7
  go_wp2_with fail
  refine (clevel_v H8.out V3.out).mono ?_
  rintro e w9 ⟨rfl, b9⟩
  have HB9 := Lib.hid (HB8.out.trans (b9.mono HB8.out.size))
  clear b9 H8 HB8
  go_wp2_with fail
  go_ret
  exact ⟨rfl, HB9.out⟩

theorem own : ownKnob Try.prog.godebug = none := by kernel_rfl
theorem laidOut : laidOutB Try.prog = true := by kernel_rfl
set_option maxRecDepth 100000 in
theorem lifted (os : Os) (started : os.Started) (H : Type) (enc : TypeId × Value → H) :
    ReturnsInHanded {} Try.checked os 9 .any (Rows.wavePartsSpec.pre6 enc Try.prog Try.f9 Rows.wavePartsRow.domain false) (Rows.wavePartsSpec.post enc Try.prog Try.f9 false true false false) := by
  refine returnsInHanded_of_change (C := Try.checked) own started (by kernel_rfl) Try.func9
    (ChangeSpec.witness6 (enc := enc) (C := Try.checked) false ⟨#[], #[.slice none 0 0, .int .u32 0, .int .u32 0], []⟩ 8 (by kernel_rfl) (by kernel_rfl) (by kernel_rfl) (by kernel_rfl)) ?_
  intro W base args ds gs before hval0 hW _ _
  have hval : ∀ (j : Nat) t v, Try.f9.params[j]? = some t → args[j]? = some v → Value.okWide Try.prog W .any base t v := hval0
  have hW' := hW
  obtain ⟨p, q, hA0, hV, rfl, _, _⟩ := hW
  have hA : DataW.TrodAll enc Try.prog W 0 (fun _ => true) true Try.f9.params.toList args.toList ds p := hA0
  rw [Try.params9] at hA hval
  obtain ⟨v0, vs0, d0, ds0, p0, q0, hargs, rfl, rfl, h0, r0⟩ := trodAll_cons hA
  obtain ⟨v1, vs1, d1, ds1, p1, q1, rfl, rfl, rfl, h1, r1⟩ := trodAll_cons r0
  obtain ⟨v2, vs2, d2, ds2, p2, q2, rfl, rfl, rfl, h2, r2⟩ := trodAll_cons r1
  obtain ⟨rfl, rfl, rfl⟩ := trodAll_nil r2
  obtain rfl : args = #[v0, v1, v2] := by cases args; simp_all
  obtain ⟨rfl, rfl⟩ := trodVars_none hV
  obtain ⟨A0, n0, c0, q0, rfl, g0, m0, R0, F0, N0⟩ := slice_fk _ [.int .u8, .int .u8, .int .u8, .int .u16, .int .i64] Try.underlying46 Try.underlying85 (by kernel_rfl) (by kernel_rfl) rfl (by decide)
    (fun j k h => match j, h with
      | 0, h => by cases h; exact ⟨_, rfl, Try.underlying5⟩
      | 1, h => by cases h; exact ⟨_, rfl, Try.underlying5⟩
      | 2, h => by cases h; exact ⟨_, rfl, Try.underlying5⟩
      | 3, h => by cases h; exact ⟨_, rfl, Try.underlying23⟩
      | 4, h => by cases h; exact ⟨_, rfl, Try.underlying3⟩
      | j + 5, h => by simp at h) (hval 0 46 v0 rfl rfl) h0
  obtain ⟨a1, rfl, rfl, rfl, w1⟩ := open_int Try.underlying22 (hval 1 22 v1 rfl rfl) h1
  obtain ⟨a2, rfl, rfl, rfl, w2⟩ := open_int Try.underlying22 (hval 2 22 v2 rfl rfl) h2
  clear hA0 hval0
  refine (walk A0 n0 c0 q0 g0 m0 R0 F0 a1 w1 a2 w2).mono fun e W' ⟨he, hg⟩ => ?_
  subst he
  exact ⟨_, rfl, law_post rfl Try.underlying4 laidOut (by kernel_rfl) rfl hW' rfl hg⟩

theorem over : Rows.wavePartsRow.holds Try.pinned (OpenSpec.ofChange Rows.wavePartsSpec) :=
  OpenClaim.holds_of_wide 9 Try.f9 rfl rfl rfl rfl rfl rfl rfl ⟨rfl, rfl, rfl, rfl, rfl⟩ rfl rfl rfl rfl rfl (by kernel_rfl) Try.func9 (by kernel_rfl)
    (of_decide_eq_true (by kernel_rfl)) (by unfold Func.isWrapper; first | (rw [if_pos (by decide +kernel)]; kernel_rfl) | (rw [if_neg (by decide +kernel)]; exact ⟨rfl, rfl⟩))
    (fun os started H enc _ => lifted os started H enc)

theorem proved : Rows.WavePartsSaid := over
#print axioms proved
end Go.Proofs.Ytcnjekballnncaa.waveParts
