/-
  Logic: the program's calls.
-/
import Derived.Test.YtkmcfmflihkdjaaDoorFlg1
import Derived.Test.YtkmcfmflihkdjaaDoorG12
namespace Go.Proofs.YtkmcfmflihkdjaaDoor
open Go.RowKit
set_option linter.unusedVariables false
set_option linter.unusedSimpArgs false
set_option maxRecDepth 100000
/-- P with N and Z by a byte. -/
def lgR (p v : Int) : Int := flS (flS p 128 (bitB v 7)) 2 (v == 0)
def ltS (a m p : Int) : Int := flS (flS (flS p 128 (bitB m 7)) 64 (bitB m 6)) 2 (bits .and .u8 a m == 0)
def slV (v : Int) (i : Bool) : Int := withI (v * 2 % 256) 0 i
def srV (v : Int) (i : Bool) : Int := withI (v / 2) 7 i
theorem lresult_any (v p : Int) (w : World) : Calls Tryd.prog 22 #[.int .u8 v, .int .u8 p] w fun e w' => e = .returned (.tuple #[.int .u8 v, .int .u8 (lgR p v)]) ∧ w = w' := by
  go_enter Tryd.func22, Tryd.ntmps22
  go_wp2_with (go_at_call 17; refine (fresult_any _ _ _).mono ?_; rintro e w' ⟨rfl, rfl⟩)
  go_ret2
  exact ⟨rfl, rfl⟩
theorem lleft_any (b : Int) (i : Bool) (w : World) : Calls Tryd.prog 20 #[.int .u8 b, .bool i] w fun e w' => e = .returned (.tuple #[.int .u8 (slV b i), .bool (bitB b 7)]) ∧ w = w' := by
  have := left_any b i w
  rwa [IntKind.wrap_u8] at this
theorem lright_any (b : Int) (i : Bool) (w : World) : Calls Tryd.prog 21 #[.int .u8 b, .bool i] w fun e w' => e = .returned (.tuple #[.int .u8 (srV b i), .bool (bitB b 0)]) ∧ w = w' := right_any b i w
set_option maxHeartbeats 4000000 in
theorem lturn_asl (v p : Int) (w : World) : Calls Tryd.prog 12 #[.int .u8 65, .int .u8 v, .int .u8 p] w fun e w' => e = .returned (.tuple #[.int .u8 (slV v false), .int .u8 (lgR (flS p 1 (bitB v 7)) (slV v false))]) ∧ Below w.heap.size w w' := by
  go_enter Tryd.func12, Tryd.ntmps12
  go_wp2_with fail
  refine (lleft_any _ _ _).mono ?_
  rintro e w' ⟨rfl, rfl⟩
  go_wp2_with fail
  refine (fset_any _ _ _ _).mono ?_
  rintro e w' ⟨rfl, rfl⟩
  go_wp2_with fail
  refine (lresult_any _ _ _).mono ?_
  rintro e w' ⟨rfl, rfl⟩
  go_wp2_with fail
  go_ret2
  exact ⟨rfl, Below.refl _ _⟩
set_option maxHeartbeats 4000000 in
theorem lturn_lsr (v p : Int) (w : World) : Calls Tryd.prog 12 #[.int .u8 76, .int .u8 v, .int .u8 p] w fun e w' => e = .returned (.tuple #[.int .u8 (srV v false), .int .u8 (lgR (flS p 1 (bitB v 0)) (srV v false))]) ∧ Below w.heap.size w w' := by
  go_enter Tryd.func12, Tryd.ntmps12
  go_wp2_with fail
  refine (lright_any _ _ _).mono ?_
  rintro e w' ⟨rfl, rfl⟩
  go_wp2_with fail
  refine (fset_any _ _ _ _).mono ?_
  rintro e w' ⟨rfl, rfl⟩
  go_wp2_with fail
  refine (lresult_any _ _ _).mono ?_
  rintro e w' ⟨rfl, rfl⟩
  go_wp2_with fail
  go_ret2
  exact ⟨rfl, Below.refl _ _⟩
theorem llsr_any (v p : Int) (w : World) : Calls Tryd.prog 5 #[.int .u8 v, .int .u8 p] w fun e w' => e = .returned (.tuple #[.int .u8 (srV v false), .int .u8 (lgR (flS p 1 (bitB v 0)) (srV v false))]) ∧ Below w.heap.size w w' := by
  go_enter Tryd.func5, Tryd.ntmps5
  go_wp2_with fail
  refine (lturn_lsr _ _ _).mono ?_
  rintro e w1 ⟨rfl, b1⟩
  go_wp2_with fail
  go_ret2
  exact ⟨rfl, b1⟩
set_option maxHeartbeats 4000000 in
theorem lturn_rol (v p : Int) (w : World) : Calls Tryd.prog 12 #[.int .u8 82, .int .u8 v, .int .u8 p] w fun e w' => e = .returned (.tuple #[.int .u8 (slV v (flI p 1)), .int .u8 (lgR (flS p 1 (bitB v 7)) (slV v (flI p 1)))]) ∧ Below w.heap.size w w' := by
  go_enter Tryd.func12, Tryd.ntmps12
  go_wp2_with fail
  refine (fis_any _ _ _).mono ?_
  rintro e w1 ⟨rfl, b1⟩
  go_wp2_with fail
  refine (lleft_any _ _ _).mono ?_
  rintro e w' ⟨rfl, rfl⟩
  go_wp2_with fail
  refine (fset_any _ _ _ _).mono ?_
  rintro e w' ⟨rfl, rfl⟩
  go_wp2_with fail
  refine (lresult_any _ _ _).mono ?_
  rintro e w' ⟨rfl, rfl⟩
  go_wp2_with fail
  go_ret2
  exact ⟨rfl, b1⟩
set_option maxHeartbeats 4000000 in
theorem lturn_ror (v p : Int) (w : World) : Calls Tryd.prog 12 #[.int .u8 79, .int .u8 v, .int .u8 p] w fun e w' => e = .returned (.tuple #[.int .u8 (srV v (flI p 1)), .int .u8 (lgR (flS p 1 (bitB v 0)) (srV v (flI p 1)))]) ∧ Below w.heap.size w w' := by
  go_enter Tryd.func12, Tryd.ntmps12
  go_wp2_with fail
  refine (fis_any _ _ _).mono ?_
  rintro e w1 ⟨rfl, b1⟩
  go_wp2_with fail
  refine (lright_any _ _ _).mono ?_
  rintro e w' ⟨rfl, rfl⟩
  go_wp2_with fail
  refine (fset_any _ _ _ _).mono ?_
  rintro e w' ⟨rfl, rfl⟩
  go_wp2_with fail
  refine (lresult_any _ _ _).mono ?_
  rintro e w' ⟨rfl, rfl⟩
  go_wp2_with fail
  go_ret2
  exact ⟨rfl, b1⟩
theorem lror_any (v p : Int) (w : World) : Calls Tryd.prog 8 #[.int .u8 v, .int .u8 p] w fun e w' => e = .returned (.tuple #[.int .u8 (srV v (flI p 1)), .int .u8 (lgR (flS p 1 (bitB v 0)) (srV v (flI p 1)))]) ∧ Below w.heap.size w w' := by
  go_enter Tryd.func8, Tryd.ntmps8
  go_wp2_with fail
  refine (lturn_ror _ _ _).mono ?_
  rintro e w1 ⟨rfl, b1⟩
  go_wp2_with fail
  go_ret2
  exact ⟨rfl, b1⟩
end Go.Proofs.YtkmcfmflihkdjaaDoor
