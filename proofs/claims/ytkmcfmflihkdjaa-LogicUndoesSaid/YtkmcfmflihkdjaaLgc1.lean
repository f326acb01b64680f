/-
  Logic: the program's calls.
-/
import Derived.Test.YtkmcfmflihkdjaaFlg1
import Derived.Test.YtkmcfmflihkdjaaG12
namespace Go.Proofs.Ytkmcfmflihkdjaa
open Go.RowKit
set_option linter.unusedVariables false
set_option linter.unusedSimpArgs false
set_option maxRecDepth 100000
/-- P with N and Z by a byte. -/
def lgR (p v : Int) : Int := flS (flS p 128 (bitB v 7)) 2 (v == 0)
def ltS (a m p : Int) : Int := flS (flS (flS p 128 (bitB m 7)) 64 (bitB m 6)) 2 (bits .and .u8 a m == 0)
def slV (v : Int) (i : Bool) : Int := withI (v * 2 % 256) 0 i
def srV (v : Int) (i : Bool) : Int := withI (v / 2) 7 i
theorem lresult_any (v p : Int) (w : World) : Calls Try.prog 59 #[.int .u8 v, .int .u8 p] w fun e w' => e = .returned (.tuple #[.int .u8 v, .int .u8 (lgR p v)]) ∧ w = w' := by
  go_enter Try.func59, Try.ntmps59
  go_wp2_with (go_at_call 55; refine (fresult_any _ _ _).mono ?_; rintro e w' ⟨rfl, rfl⟩)
  go_ret2
  exact ⟨rfl, rfl⟩
theorem land_any (a b p : Int) (w : World) : Calls Try.prog 25 #[.int .u8 a, .int .u8 b, .int .u8 p] w fun e w' => e = .returned (.tuple #[.int .u8 (bits .and .u8 a b), .int .u8 (lgR p (bits .and .u8 a b))]) ∧ w = w' := by
  go_enter Try.func25, Try.ntmps25
  go_wp2_with (go_at_call 59; refine (lresult_any _ _ _).mono ?_; rintro e w' ⟨rfl, rfl⟩)
  go_ret2
  exact ⟨rfl, rfl⟩
theorem lor_any (a b p : Int) (w : World) : Calls Try.prog 26 #[.int .u8 a, .int .u8 b, .int .u8 p] w fun e w' => e = .returned (.tuple #[.int .u8 (bits .or .u8 a b), .int .u8 (lgR p (bits .or .u8 a b))]) ∧ w = w' := by
  go_enter Try.func26, Try.ntmps26
  go_wp2_with (go_at_call 59; refine (lresult_any _ _ _).mono ?_; rintro e w' ⟨rfl, rfl⟩)
  go_ret2
  exact ⟨rfl, rfl⟩
theorem leor_any (a b p : Int) (w : World) : Calls Try.prog 27 #[.int .u8 a, .int .u8 b, .int .u8 p] w fun e w' => e = .returned (.tuple #[.int .u8 (bits .xor .u8 a b), .int .u8 (lgR p (bits .xor .u8 a b))]) ∧ w = w' := by
  go_enter Try.func27, Try.ntmps27
  go_wp2_with (go_at_call 59; refine (lresult_any _ _ _).mono ?_; rintro e w' ⟨rfl, rfl⟩)
  go_ret2
  exact ⟨rfl, rfl⟩
theorem ltest_any (a m p : Int) (w : World) : Calls Try.prog 36 #[.int .u8 a, .int .u8 m, .int .u8 p] w fun e w' => e = .returned (.int .u8 (ltS a m p)) ∧ w = w' := by
  go_enter Try.func36, Try.ntmps36
  go_wp2_with (first | (go_at_call 44; refine (bit_any _ _ _).mono ?_; rintro e w' ⟨rfl, rfl⟩) | (go_at_call 56; refine (fset_any _ _ _ _).mono ?_; rintro e w' ⟨rfl, rfl⟩))
  go_ret
  exact ⟨rfl, rfl⟩
theorem ltsb_any (a m p : Int) (w : World) : Calls Try.prog 28 #[.int .u8 a, .int .u8 m, .int .u8 p] w fun e w' => e = .returned (.tuple #[.int .u8 (bits .or .u8 m a), .int .u8 (ltS a m p)]) ∧ w = w' := by
  go_enter Try.func28, Try.ntmps28
  go_wp2_with (go_at_call 36; refine (ltest_any _ _ _ _).mono ?_; rintro e w' ⟨rfl, rfl⟩)
  go_ret2
  exact ⟨rfl, rfl⟩
theorem ltrb_any (a m p : Int) (w : World) : Calls Try.prog 29 #[.int .u8 a, .int .u8 m, .int .u8 p] w fun e w' => e = .returned (.tuple #[.int .u8 (bits .andNot .u8 m a), .int .u8 (ltS a m p)]) ∧ w = w' := by
  go_enter Try.func29, Try.ntmps29
  go_wp2_with (go_at_call 36; refine (ltest_any _ _ _ _).mono ?_; rintro e w' ⟨rfl, rfl⟩)
  go_ret2
  exact ⟨rfl, rfl⟩
theorem lleft_any (b : Int) (i : Bool) (w : World) : Calls Try.prog 74 #[.int .u8 b, .bool i] w fun e w' => e = .returned (.tuple #[.int .u8 (slV b i), .bool (bitB b 7)]) ∧ w = w' := by
  have := left_any b i w
  rwa [IntKind.wrap_u8] at this
theorem lright_any (b : Int) (i : Bool) (w : World) : Calls Try.prog 75 #[.int .u8 b, .bool i] w fun e w' => e = .returned (.tuple #[.int .u8 (srV b i), .bool (bitB b 0)]) ∧ w = w' := right_any b i w
set_option maxHeartbeats 4000000 in
theorem lturn_asl (v p : Int) (w : World) : Calls Try.prog 62 #[.int .u8 65, .int .u8 v, .int .u8 p] w fun e w' => e = .returned (.tuple #[.int .u8 (slV v false), .int .u8 (lgR (flS p 1 (bitB v 7)) (slV v false))]) ∧ Below w.heap.size w w' := by
  go_enter Try.func62, Try.ntmps62
  go_wp2_with fail
  refine (lleft_any _ _ _).mono ?_
  rintro e w' ⟨rfl, rfl⟩
  go_wp2_with fail
  refine (fset_any _ _ _ _).mono ?_
  rintro e w' ⟨rfl, rfl⟩
  go_wp2_with fail
  refine (lresult_any _ _ _).mono ?_
  rintro e w' ⟨rfl, rfl⟩
  go_wp2_with fail
  go_ret2
  exact ⟨rfl, Below.refl _ _⟩
theorem lasl_any (v p : Int) (w : World) : Calls Try.prog 37 #[.int .u8 v, .int .u8 p] w fun e w' => e = .returned (.tuple #[.int .u8 (slV v false), .int .u8 (lgR (flS p 1 (bitB v 7)) (slV v false))]) ∧ Below w.heap.size w w' := by
  go_enter Try.func37, Try.ntmps37
  go_wp2_with fail
  refine (lturn_asl _ _ _).mono ?_
  rintro e w1 ⟨rfl, b1⟩
  go_wp2_with fail
  go_ret2
  exact ⟨rfl, b1⟩
set_option maxHeartbeats 4000000 in
theorem lturn_lsr (v p : Int) (w : World) : Calls Try.prog 62 #[.int .u8 76, .int .u8 v, .int .u8 p] w fun e w' => e = .returned (.tuple #[.int .u8 (srV v false), .int .u8 (lgR (flS p 1 (bitB v 0)) (srV v false))]) ∧ Below w.heap.size w w' := by
  go_enter Try.func62, Try.ntmps62
  go_wp2_with fail
  refine (lright_any _ _ _).mono ?_
  rintro e w' ⟨rfl, rfl⟩
  go_wp2_with fail
  refine (fset_any _ _ _ _).mono ?_
  rintro e w' ⟨rfl, rfl⟩
  go_wp2_with fail
  refine (lresult_any _ _ _).mono ?_
  rintro e w' ⟨rfl, rfl⟩
  go_wp2_with fail
  go_ret2
  exact ⟨rfl, Below.refl _ _⟩
theorem llsr_any (v p : Int) (w : World) : Calls Try.prog 38 #[.int .u8 v, .int .u8 p] w fun e w' => e = .returned (.tuple #[.int .u8 (srV v false), .int .u8 (lgR (flS p 1 (bitB v 0)) (srV v false))]) ∧ Below w.heap.size w w' := by
  go_enter Try.func38, Try.ntmps38
  go_wp2_with fail
  refine (lturn_lsr _ _ _).mono ?_
  rintro e w1 ⟨rfl, b1⟩
  go_wp2_with fail
  go_ret2
  exact ⟨rfl, b1⟩
set_option maxHeartbeats 4000000 in
theorem lturn_rol (v p : Int) (w : World) : Calls Try.prog 62 #[.int .u8 82, .int .u8 v, .int .u8 p] w fun e w' => e = .returned (.tuple #[.int .u8 (slV v (flI p 1)), .int .u8 (lgR (flS p 1 (bitB v 7)) (slV v (flI p 1)))]) ∧ Below w.heap.size w w' := by
  go_enter Try.func62, Try.ntmps62
  go_wp2_with fail
  refine (fis_any _ _ _).mono ?_
  rintro e w1 ⟨rfl, b1⟩
  go_wp2_with fail
  refine (lleft_any _ _ _).mono ?_
  rintro e w' ⟨rfl, rfl⟩
  go_wp2_with fail
  refine (fset_any _ _ _ _).mono ?_
  rintro e w' ⟨rfl, rfl⟩
  go_wp2_with fail
  refine (lresult_any _ _ _).mono ?_
  rintro e w' ⟨rfl, rfl⟩
  go_wp2_with fail
  go_ret2
  exact ⟨rfl, b1⟩
theorem lrol_any (v p : Int) (w : World) : Calls Try.prog 39 #[.int .u8 v, .int .u8 p] w fun e w' => e = .returned (.tuple #[.int .u8 (slV v (flI p 1)), .int .u8 (lgR (flS p 1 (bitB v 7)) (slV v (flI p 1)))]) ∧ Below w.heap.size w w' := by
  go_enter Try.func39, Try.ntmps39
  go_wp2_with fail
  refine (lturn_rol _ _ _).mono ?_
  rintro e w1 ⟨rfl, b1⟩
  go_wp2_with fail
  go_ret2
  exact ⟨rfl, b1⟩
set_option maxHeartbeats 4000000 in
theorem lturn_ror (v p : Int) (w : World) : Calls Try.prog 62 #[.int .u8 79, .int .u8 v, .int .u8 p] w fun e w' => e = .returned (.tuple #[.int .u8 (srV v (flI p 1)), .int .u8 (lgR (flS p 1 (bitB v 0)) (srV v (flI p 1)))]) ∧ Below w.heap.size w w' := by
  go_enter Try.func62, Try.ntmps62
  go_wp2_with fail
  refine (fis_any _ _ _).mono ?_
  rintro e w1 ⟨rfl, b1⟩
  go_wp2_with fail
  refine (lright_any _ _ _).mono ?_
  rintro e w' ⟨rfl, rfl⟩
  go_wp2_with fail
  refine (fset_any _ _ _ _).mono ?_
  rintro e w' ⟨rfl, rfl⟩
  go_wp2_with fail
  refine (lresult_any _ _ _).mono ?_
  rintro e w' ⟨rfl, rfl⟩
  go_wp2_with fail
  go_ret2
  exact ⟨rfl, b1⟩
theorem lror_any (v p : Int) (w : World) : Calls Try.prog 40 #[.int .u8 v, .int .u8 p] w fun e w' => e = .returned (.tuple #[.int .u8 (srV v (flI p 1)), .int .u8 (lgR (flS p 1 (bitB v 0)) (srV v (flI p 1)))]) ∧ Below w.heap.size w w' := by
  go_enter Try.func40, Try.ntmps40
  go_wp2_with fail
  refine (lturn_ror _ _ _).mono ?_
  rintro e w1 ⟨rfl, b1⟩
  go_wp2_with fail
  go_ret2
  exact ⟨rfl, b1⟩
theorem linc_any (v p : Int) (w : World) : Calls Try.prog 41 #[.int .u8 v, .int .u8 p] w fun e w' => e = .returned (.tuple #[.int .u8 ((v + 1) % 256), .int .u8 (lgR p ((v + 1) % 256))]) ∧ w = w' := by
  go_enter Try.func41, Try.ntmps41
  go_wp2_with (go_at_call 59; refine (lresult_any _ _ _).mono ?_; rintro e w' ⟨rfl, rfl⟩)
  go_ret2
  exact ⟨rfl, rfl⟩
theorem ldec_any (v p : Int) (w : World) : Calls Try.prog 42 #[.int .u8 v, .int .u8 p] w fun e w' => e = .returned (.tuple #[.int .u8 ((v - 1) % 256), .int .u8 (lgR p ((v - 1) % 256))]) ∧ w = w' := by
  go_enter Try.func42, Try.ntmps42
  go_wp2_with (go_at_call 59; refine (lresult_any _ _ _).mono ?_; rintro e w' ⟨rfl, rfl⟩)
  go_ret2
  exact ⟨rfl, rfl⟩
end Go.Proofs.Ytkmcfmflihkdjaa
