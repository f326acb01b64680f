/-
  For every input TopPads returns true, and each argument reads behind the call as it read before. No conditions.
-/
import Derived.Test.YtbdmpgpdnnjmpaaRows
import Derived.Test.YtbdmpgpdnnjmpaaG3
import Derived.Test.YtbdmpgpdnnjmpaaPort4
import Derived.Test.YtbdmpgpdnnjmpaaTim6
import Derived.Deep.Cut
import Derived.Deep.CutRange
import Derived.Deep.RegionHeld3
import Derived.Deep.RegionWith
import Derived.RegionTactic
import Derived.BigRegion
import Derived.LoopTactic
namespace Go.Proofs.Ytbdmpgpdnnjmpaa.topPads
open Go.ChangeShapes Go.WideShapes Go.ChangeAt Go.RowKit
open Go.ChangeMaps (open_string)

set_option linter.unusedVariables false
set_option linter.unusedSimpArgs false
theorem lo_v {x y : Int} {w : World} (e : IntKind.u8.wrap x = y) : Calls Try.prog 34 #[.int .u16 x] w fun e w' => e = .returned (.int .u8 y) ∧ w = w' := e ▸ lo_any x w
set_option maxRecDepth 100000 in
set_option maxHeartbeats 8000000 in
theorem walk (b : Int) (wb : (Lit.int .u8 b).wf = true) (W : World) :
    Calls Try.prog 9 #[.int .u8 b] W fun e w' => e = .returned (.bool true) ∧ Below W.heap.size W w' := by
  obtain ⟨b0, b1⟩ := bounds_u8 wb
  have WB := Lib.hid wb
  obtain ⟨R, hR⟩ : ∃ R : Nat, (b % 128).toNat = R := ⟨_, rfl⟩
  have eR : b % 128 = (R : Int) := by omega
  have hR1 : R ≤ 127 := by omega
  obtain ⟨x, hx⟩ : ∃ x : Int, 176 + b % 16 = x := ⟨_, rfl⟩
  obtain ⟨y, hy⟩ : ∃ y : Int, 176 + b / 16 = y := ⟨_, rfl⟩
  have x0 : 176 ≤ x ∧ x ≤ 191 := by omega
  have y0 : 176 ≤ y ∧ y ≤ 191 := by omega
  have e1 : y % 16 * 16 + x % 16 = b := by omega
  have e2 : y / 16 = 11 := by omega
  have e3 : x / 16 = 11 := by omega
  have t1 : (b == b) = true := by simp
  have HR := Lib.hid hR
  have HX := Lib.hid hx
  have HY := Lib.hid hy
  have E2 := Lib.hid e2
  have E3 := Lib.hid e3
  have E1 := Lib.hid e1
  obtain ⟨N, hN⟩ : ∃ N : Nat, 3072 * (R + 1) = N := ⟨_, rfl⟩
  have hN1 : N ≤ 393216 := by omega
  have HN := Lib.hid hN
  have ER := Lib.hid eR
  obtain ⟨B, hB⟩ : ∃ B, W.heap.size = B := ⟨_, rfl⟩
  have hb0 : Below B W W := by rw [← hB]; exact Below.refl _ _
  have HB0 := Lib.hid hb0
  have HBB := Lib.hid hB
  clear hb0 hB hR hx hy e1 e2 e3 hN eR wb
  go_enter Try.func9, Try.ntmps9
  go_wp2_with fail
  refine (bit_v (x := true) (by kernel_rfl)).mono ?_
  rintro e w' ⟨rfl, rfl⟩
  go_wp2_with fail
  refine (pnew_two WB.out HB0.out (by rw [HBB.out]; exact Nat.le_refl _)).mono ?_
  rintro e w1 ⟨g, cb, rfl, p1⟩
  have P1 := Lib.hid p1
  clear p1
  go_wp2_with fail
  refine (tnew_any _).mono ?_
  rintro e w2 ⟨rfl, u2, b2⟩
  have hg1 : g < w1.heap.size := P1.out.1.lt
  have hc1 : cb < w1.heap.size := P1.out.1.ltc
  have hB1 : B ≤ w1.heap.size := P1.out.2.2.1
  have P2 : Hid (PB B W g cb 2 (fun _ => b) 0 ⟨0, 0⟩ w2) := Lib.hid ⟨PT.keep P1.out.1 b2, P1.out.2.1.trans (b2.mono hB1), Nat.le_trans hB1 b2.size, P1.out.2.2.2⟩
  have U2 : Hid (T0 w2 w1.heap.size Tm.new) := Lib.hid u2
  clear u2 b2 P1
  generalize w1.heap.size = u at *
  go_wp2_with fail
  refine (pread_v P2.out.1 (by omega) (x := x) (q' := 1) (by rw [← HX.out]; simp [Pt.val, Pt.takes, peekI]) (by decide)).mono ?_
  rintro e w3 ⟨rfl, p3, k3⟩
  have P3 := Lib.hid (P2.out.go p3 k3 (by simp))
  have U3 : Hid (T0 w3 u Tm.new) := Lib.hid (TM.kp U2.out k3 (by simp; omega))
  clear p3 k3 P2 U2
  go_wp2_with fail
  refine (pwrite_v P3.out.1 (by omega) (by omega) (s' := ⟨1, 1⟩) (by kernel_rfl)).mono ?_
  rintro e w4 ⟨rfl, p4, k4⟩
  have P4 := Lib.hid (P3.out.go p4 k4 (by simp))
  have U4 : Hid (T0 w4 u Tm.new) := Lib.hid (TM.kp U3.out k4 (by simp; omega))
  clear p4 k4 P3 U3
  go_wp2_with fail
  refine (pread_v P4.out.1 (by omega) (x := y) (q' := 2) (by rw [← HY.out]; simp [Pt.val, Pt.takes, peekI]) (by decide)).mono ?_
  rintro e w5 ⟨rfl, p5, k5⟩
  have P5 := Lib.hid (P4.out.go p5 k5 (by simp))
  have U5 : Hid (T0 w5 u Tm.new) := Lib.hid (TM.kp U4.out k5 (by simp; omega))
  clear p5 k5 P4 U4
  have hoff : ∀ {w : World} {s : Tm}, T0 w u s → ∀ y ∈ [u], ∃ t cs, Blk w y t cs ∧ 5 ≠ t := fun h y hy => by
    obtain rfl : y = u := by simpa using hy
    exact ⟨_, _, h.1, by decide⟩
  have step : ∀ (w w' : World) (s : Tm), PB B W g cb 2 (fun _ => b) 2 ⟨1, 1⟩ w → T0 w u s → Kp [u] w w' → PB B W g cb 2 (fun _ => b) 2 ⟨1, 1⟩ w' := fun _ _ _ h ht k =>
    ⟨PT.kp h.1 k (hoff ht) (by simp; omega) (by simp; omega), k.onto h.2.1 h.2.2.1 (by simp; omega), Nat.le_trans h.2.2.1 k.size, h.2.2.2⟩
  have STEP := Lib.hid step
  clear hoff step
  go_wp2_with fail
  refine (twrite_v U5.out b0 b1 (s' := ⟨0, 0, R, false⟩) (by rw [← HR.out]; rfl)).mono ?_
  rintro e w6 ⟨rfl, u6, k6⟩
  have P6 := Lib.hid (STEP.out _ _ _ P5.out U5.out k6)
  have U6 := Lib.hid u6
  clear u6 k6 P5 U5
  go_wp2_with fail
  refine (twrite_v U6.out (by omega) (by omega) (s' := ⟨0, R, R, true⟩) (by rfl)).mono ?_
  rintro e w7 ⟨rfl, u7, k7⟩
  have P7 := Lib.hid (STEP.out _ _ _ P6.out U6.out k7)
  have U7 := Lib.hid u7
  clear u7 k7 P6 U6
  go_wp2_with fail
  refine (tuntil_v U7.out (v := .tuple #[.int .i64 (N : Int), .bool true]) (by have h := HN.out; unfold Tm.till; rw [if_pos rfl]; congr 3; dsimp only; congr 1; omega)).mono ?_
  rintro e w8 ⟨rfl, k8⟩
  have P8 := Lib.hid (STEP.out _ _ _ P7.out U7.out (k8.mono (by simp)))
  have U8 : Hid (T0 w8 u ⟨0, R, R, true⟩) := Lib.hid (TM.kp U7.out k8 (by simp))
  clear k8 P7 U7
  go_wp2_with fail
  refine (tgo_v U8.out (n := 3 * (N : Int)) (by omega) (s' := Tm.goN ⟨0, R, R, true⟩ (3 * N)) (x := 3) (by rw [show (3 * (N : Int)).toNat = 3 * N by omega]) (by
    have h := HN.out
    have h1 : (3 * (N : Int)).toNat = 3 * N := by omega
    have h3 : (0 + 3 * N) / 3072 = R + 1 + 2 * (R + 1) := by omega
    unfold Tm.overN
    rw [if_pos rfl, h1]
    dsimp only
    rw [h3, tk_rounds]; rfl)).mono ?_
  rintro e w9 ⟨rfl, u9, k9⟩
  have P9 := Lib.hid (STEP.out _ _ _ P8.out U8.out k9)
  have hr9 : (Tm.goN ⟨0, R, R, true⟩ (3 * N)).r = R := by unfold Tm.goN; rw [if_pos rfl]
  have U9 := Lib.hid u9
  have HR9 := Lib.hid hr9
  have e1 := E1.out
  have e2 := E2.out
  have e3 := E3.out
  clear u9 k9 P8 U8 hr9
  go_wp2_with fail
  refine (ppad_v P9.out.1 (x := 1) rfl).mono ?_
  rintro e w' ⟨rfl, rfl⟩
  go_wp2_with fail
  refine (ptaken_v P9.out.1 (x := 2) rfl).mono ?_
  rintro e w' ⟨rfl, rfl⟩
  clear e1 e2 e3
  go_wp2_with fail
  refine (treload_v U9.out (x := (R : Int)) (by rw [HR9.out])).mono ?_
  rintro e w' ⟨rfl, rfl⟩
  go_wp2_with fail
  refine (lo_v (y := (R : Int)) (by rw [IntKind.wrap_u8]; omega)).mono ?_
  rintro e w' ⟨rfl, rfl⟩
  have eR := ER.out
  have t2 : ((R : Int) == R) = true := by simp
  go_wp2_with fail
  go_ret
  exact ⟨by simp, by rw [HBB.out]; exact P9.out.2.1⟩

theorem own : ownKnob Try.prog.godebug = none := by kernel_rfl
theorem laidOut : laidOutB Try.prog = true := by kernel_rfl
set_option maxRecDepth 100000 in
theorem lifted (os : Os) (started : os.Started) (H : Type) (enc : TypeId × Value → H) :
    ReturnsInHanded {} Try.checked os 9 .any (Rows.topPadsSpec.pre6 enc Try.prog Try.f9 Rows.topPadsRow.domain false) (Rows.topPadsSpec.post enc Try.prog Try.f9 false true false false) := by
  refine returnsInHanded_of_change (C := Try.checked) own started (by kernel_rfl) Try.func9
    (ChangeSpec.witness6 (enc := enc) (C := Try.checked) false ⟨#[], #[.int .u8 0], []⟩ 8 (by kernel_rfl) (by kernel_rfl) (by kernel_rfl) (by kernel_rfl)) ?_
  intro W base args ds gs before hval0 hW _ _
  have hval : ∀ (j : Nat) t v, Try.f9.params[j]? = some t → args[j]? = some v → Value.okWide Try.prog W .any base t v := hval0
  have hW' := hW
  obtain ⟨p, q, hA0, hV, rfl, _, _⟩ := hW
  have hA : DataW.TrodAll enc Try.prog W 0 (fun _ => true) true Try.f9.params.toList args.toList ds p := hA0
  rw [Try.params9] at hA hval
  obtain ⟨v0, vs0, d0, ds0, p0, q0, hargs, rfl, rfl, h0, r0⟩ := trodAll_cons hA
  obtain ⟨rfl, rfl, rfl⟩ := trodAll_nil r0
  obtain rfl : args = #[v0] := by cases args; simp_all
  obtain ⟨rfl, rfl⟩ := trodVars_none hV
  obtain ⟨a0, rfl, rfl, rfl, w0⟩ := open_int Try.underlying5 (hval 0 5 v0 rfl rfl) h0
  clear hA0 hval0
  refine (walk a0 w0 W).mono fun e W' ⟨he, hg⟩ => ?_
  subst he
  exact ⟨_, rfl, law_post rfl Try.underlying4 laidOut (by kernel_rfl) rfl hW' rfl hg⟩

theorem over : Rows.topPadsRow.holds Try.pinned (OpenSpec.ofChange Rows.topPadsSpec) :=
  OpenClaim.holds_of_wide 9 Try.f9 rfl rfl rfl rfl rfl rfl rfl ⟨rfl, rfl, rfl, rfl, rfl⟩ rfl rfl rfl rfl rfl (by kernel_rfl) Try.func9 (by kernel_rfl)
    (of_decide_eq_true (by kernel_rfl)) (by unfold Func.isWrapper; first | (rw [if_pos (by decide +kernel)]; kernel_rfl) | (rw [if_neg (by decide +kernel)]; exact ⟨rfl, rfl⟩))
    (fun os started H enc _ => lifted os started H enc)

theorem proved : Rows.TopPadsSaid := over
#print axioms proved
end Go.Proofs.Ytbdmpgpdnnjmpaa.topPads
