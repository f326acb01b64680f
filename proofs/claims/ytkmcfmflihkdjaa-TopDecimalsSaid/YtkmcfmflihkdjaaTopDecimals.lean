/-
  For every input TopDecimals returns true, and each argument reads behind the call as it read before. No conditions.
-/
import Derived.Test.YtkmcfmflihkdjaaRows
import Derived.Test.YtkmcfmflihkdjaaG3
import Derived.Test.YtkmcfmflihkdjaaAdd7
namespace Go.Proofs.Ytkmcfmflihkdjaa.topDecimals
open Go.ChangeShapes Go.WideShapes Go.ChangeAt Go.RowKit
open Go.ChangeMaps (open_string)

set_option linter.unusedVariables false
set_option linter.unusedSimpArgs false
set_option maxRecDepth 100000 in
set_option maxHeartbeats 8000000 in
theorem walk (m : Int) (wm : (Lit.int .u8 m).wf = true) (n : Int) (wn : (Lit.int .u8 n).wf = true) (W : World) :
    Calls Try.prog 11 #[.int .u8 m, .int .u8 n] W fun e w' => e = .returned (.bool true) ∧ Below W.heap.size W w' := by
  obtain ⟨m0, m1⟩ := bounds_u8 wm
  obtain ⟨n0, n1⟩ := bounds_u8 wn
  obtain ⟨x, hx⟩ : ∃ x, m % 100 = x := ⟨_, rfl⟩
  obtain ⟨y, hy⟩ : ∃ y, n % 100 = y := ⟨_, rfl⟩
  have x0 : 0 ≤ x := by omega
  have x1 : x ≤ 99 := by omega
  have y0 : 0 ≤ y := by omega
  have y1 : y ≤ 99 := by omega
  have hx2 : m.tmod 100 = x := by rw [Int.tmod_eq_emod_of_nonneg m0]; exact hx
  have hy2 : n.tmod 100 = y := by rw [Int.tmod_eq_emod_of_nonneg n0]; exact hy
  have D8 : flI 8 8 = true := by decide +kernel
  have D9 : flI 9 8 = true := by decide +kernel
  obtain ⟨S, hS⟩ : ∃ S, (x + y) % 100 = S := ⟨_, rfl⟩
  have S0 : 0 ≤ S := by omega
  have S1 : S ≤ 99 := by omega
  obtain ⟨s1, s2, s3, s4, s5⟩ := st_dec false x y 8 x0 x1 y0 y1 (by decide) (by decide) D8
  obtain ⟨t1, t2, t3, t4, t5⟩ := st_dec true S y 9 S0 S1 y0 y1 (by decide) (by decide) D9
  simp only [stV, stP, Bool.false_eq_true, if_false, if_true] at s1 s2 s3 s4 s5 t1 t2 t3 t4 t5
  rw [show oI (flI 8 1) = 0 by decide +kernel, Int.add_zero] at s1 s2
  rw [show oI (flI 9 1) = 1 by decide +kernel] at t1 t2
  rw [hS] at s1
  rw [show (S - y - (1 - 1)) % 100 = x by omega] at t1
  rw [show decide (0 ≤ S - y - (1 - 1)) = decide (x + y < 100) from decide_eq_decide.2 (by omega)] at t2
  have pb : ∀ u : Int, 0 ≤ u → u ≤ 99 → 0 ≤ pk u ∧ pk u ≤ 255 ∧ pk u / 16 ≤ 9 ∧ pk u % 16 ≤ 9 ∧ 10 * (pk u / 16) + pk u % 16 = u := fun u h0 h1 => by unfold pk; omega
  obtain ⟨a0, a1, _⟩ := pb x x0 x1
  obtain ⟨b0, b1, _⟩ := pb y y0 y1
  obtain ⟨c0, c1, c2, c3, c4⟩ := pb S S0 S1
  have P1 := fun W => pack_yes x W x0 x1
  have P2 := fun W => pack_yes y W y0 y1
  have A1 := fun W => aAdd_any (pk x) (pk y) 8 W a0 a1 b0 b1
  have A2 := fun W => aSub_any (pk S) (pk y) 9 W c0 c1 b0 b1
  have U := fun W => unpack_yes (pk S) W c0 c1 c2 c3
  rw [show x / 10 * 16 + x % 10 = pk x from rfl] at P1
  rw [show y / 10 * 16 + y % 10 = pk y from rfl] at P2
  rw [s1] at A1
  rw [t1] at A2
  rw [D8] at A1
  rw [c4] at U
  obtain ⟨p, hp⟩ : ∃ p, adP (pk x) (pk y) 8 = p := ⟨_, rfl⟩
  obtain ⟨q, hq⟩ : ∃ q, sbP (pk S) (pk y) 9 = q := ⟨_, rfl⟩
  rw [hp] at A1 s2
  rw [hq] at A2 t2
  have I1 := fun W => fis_any p 1 W
  have I2 := fun W => fis_any q 1 W
  rw [s2] at I1
  rw [t2] at I2
  obtain ⟨d9, h9⟩ : ∃ d, flI 9 8 = d := ⟨_, rfl⟩
  rw [h9] at A2
  have hS2 : (x + y).tmod 100 = S := by rw [Int.tmod_eq_emod_of_nonneg (Int.add_nonneg x0 y0)]; exact hS
  generalize pk x = X at *
  generalize pk y = Y at *
  generalize pk S = Z at *
  have H1 := Lib.hid P1
  have H2 := Lib.hid P2
  have H3 := Lib.hid A1
  have H4 := Lib.hid A2
  have H5 := Lib.hid U
  have H6 := Lib.hid I1
  have H7 := Lib.hid I2
  have BA := Lib.hid (fun W => bit_any 1 0 W)
  have e1 : (decide (100 ≤ x + y) == decide (99 < x + y)) = true := by rw [show decide (100 ≤ x + y) = decide (99 < x + y) from decide_eq_decide.2 ⟨fun h => h, fun h => h⟩]; simp
  have e2 : ∀ b : Bool, (b == b) = true := fun b => by simp
  have e3 : ∀ b : Int, (b == b) = true := fun b => by simp
  clear P1 P2 A1 A2 U I1 I2 s1 s2 s3 s4 s5 t1 t2 t3 t4 t5 hp hq wm wn pb c4 c2 c3 D8 D9 h9 hS
  go_enter Try.func11, Try.ntmps11
  go_wp2_with fail
  refine (BA.out _).mono ?_
  rw [show bitB 1 0 = true by decide +kernel]
  rintro e w' ⟨rfl, rfl⟩
  go_wp2_with fail
  refine (H1.out _).mono ?_
  rintro e w' ⟨rfl, rfl⟩
  go_wp2_with fail
  refine (H2.out _).mono ?_
  rintro e w' ⟨rfl, rfl⟩
  go_wp2_with fail
  refine (H3.out _).mono ?_
  rintro e w1 ⟨rfl, b⟩
  have HB := Lib.hid b
  clear b
  go_wp2_with fail
  refine (H4.out _).mono ?_
  rintro e w2 ⟨rfl, b⟩
  replace HB := Lib.hid (HB.out.trans (b.mono HB.out.size))
  clear b
  go_wp2_with fail
  refine (H5.out _).mono ?_
  rintro e w' ⟨rfl, rfl⟩
  go_wp2_with fail
  refine (H6.out _).mono ?_
  rintro e w3 ⟨rfl, b⟩
  replace HB := Lib.hid (HB.out.trans (b.mono HB.out.size))
  clear b
  go_wp2_with fail
  refine (H7.out _).mono ?_
  rintro e w4 ⟨rfl, b⟩
  replace HB := Lib.hid (HB.out.trans (b.mono HB.out.size))
  clear b
  go_wp2_with fail
  go_ret
  exact ⟨rfl, HB.out⟩

theorem own : ownKnob Try.prog.godebug = none := by kernel_rfl
theorem laidOut : laidOutB Try.prog = true := by kernel_rfl
set_option maxRecDepth 100000 in
theorem lifted (os : Os) (started : os.Started) (H : Type) (enc : TypeId × Value → H) :
    ReturnsInHanded {} Try.checked os 11 .any (Rows.topDecimalsSpec.pre6 enc Try.prog Try.f11 Rows.topDecimalsRow.domain false) (Rows.topDecimalsSpec.post enc Try.prog Try.f11 false true false false) := by
  refine returnsInHanded_of_change (C := Try.checked) own started (by kernel_rfl) Try.func11
    (ChangeSpec.witness6 (enc := enc) (C := Try.checked) false ⟨#[], #[.int .u8 0, .int .u8 0], []⟩ 8 (by kernel_rfl) (by kernel_rfl) (by kernel_rfl) (by kernel_rfl)) ?_
  intro W base args ds gs before hval0 hW _ _
  have hval : ∀ (j : Nat) t v, Try.f11.params[j]? = some t → args[j]? = some v → Value.okWide Try.prog W .any base t v := hval0
  have hW' := hW
  obtain ⟨p, q, hA0, hV, rfl, _, _⟩ := hW
  have hA : DataW.TrodAll enc Try.prog W 0 (fun _ => true) true Try.f11.params.toList args.toList ds p := hA0
  rw [Try.params11] at hA hval
  obtain ⟨v0, vs0, d0, ds0, p0, q0, hargs, rfl, rfl, h0, r0⟩ := trodAll_cons hA
  obtain ⟨v1, vs1, d1, ds1, p1, q1, rfl, rfl, rfl, h1, r1⟩ := trodAll_cons r0
  obtain ⟨rfl, rfl, rfl⟩ := trodAll_nil r1
  obtain rfl : args = #[v0, v1] := by cases args; simp_all
  obtain ⟨rfl, rfl⟩ := trodVars_none hV
  obtain ⟨a0, rfl, rfl, rfl, w0⟩ := open_int Try.underlying5 (hval 0 5 v0 rfl rfl) h0
  obtain ⟨a1, rfl, rfl, rfl, w1⟩ := open_int Try.underlying5 (hval 1 5 v1 rfl rfl) h1
  clear hA0 hval0
  refine (walk a0 w0 a1 w1 W).mono fun e W' ⟨he, hg⟩ => ?_
  subst he
  exact ⟨_, rfl, law_post rfl Try.underlying4 laidOut (by kernel_rfl) rfl hW' rfl hg⟩

theorem over : Rows.topDecimalsRow.holds Try.pinned (OpenSpec.ofChange Rows.topDecimalsSpec) :=
  OpenClaim.holds_of_wide 11 Try.f11 rfl rfl rfl rfl rfl rfl rfl ⟨rfl, rfl, rfl, rfl, rfl⟩ rfl rfl rfl rfl rfl (by kernel_rfl) Try.func11 (by kernel_rfl)
    (of_decide_eq_true (by kernel_rfl)) (by unfold Func.isWrapper; first | (rw [if_pos (by decide +kernel)]; kernel_rfl) | (rw [if_neg (by decide +kernel)]; exact ⟨rfl, rfl⟩))
    (fun os started H enc _ => lifted os started H enc)

theorem proved : Rows.TopDecimalsSaid := over
#print axioms proved
end Go.Proofs.Ytkmcfmflihkdjaa.topDecimals
