/-
  Texts of these proofs, one behind the other: Flg1.
-/
import Derived.Test.YtngfmofjonleeaaGreatKEA02
import Derived.Test.YtngfmofjonleeaaGreatKEA03
import Derived.Test.YtngfmofjonleeaaGreatKEA10
import Derived.Laws.Closers25b
import Derived.Deep.Cut
import Derived.Deep.CutRange
import Derived.Deep.CutBlock
namespace Go.Proofs.YtngfmofjonleeaaGreat
open Go.RowKit
set_option linter.unusedVariables false
set_option linter.unusedSimpArgs false
set_option maxRecDepth 100000
def flS (p m : Int) (on : Bool) : Int := if on then bits .or .u8 p m else bits .andNot .u8 p m
theorem fset_any (p m : Int) (on : Bool) (w : World) : Calls Tryz.prog 89 #[.int .u8 p, .int .u8 m, .bool on] w fun e w' => e = .returned (.int .u8 (flS p m on)) ∧ w = w' := by
  cases on
  all_goals
    go_enter Tryz.func89, Tryz.ntmps89
    go_wp2
    go_ret
    exact ⟨rfl, rfl⟩
theorem fpushed_any (p : Int) (on : Bool) (w : World) : Calls Tryz.prog 51 #[.int .u8 p, .bool on] w fun e w' => e = .returned (.int .u8 (flS (flS p 32 false) 16 on)) ∧ w = w' := by
  go_enter Tryz.func51, Tryz.ntmps51
  go_wp2_with (go_at_call 89; refine (fset_any _ _ _ _).mono ?_; rintro e w' ⟨rfl, rfl⟩)
  go_ret
  exact ⟨rfl, rfl⟩
theorem fentered_any (p : Int) (w : World) : Calls Tryz.prog 53 #[.int .u8 p] w fun e w' => e = .returned (.int .u8 (flS (flS p 4 true) 56 false)) ∧ w = w' := by
  go_enter Tryz.func53, Tryz.ntmps53
  go_wp2_with (go_at_call 89; refine (fset_any _ _ _ _).mono ?_; rintro e w' ⟨rfl, rfl⟩)
  go_ret
  exact ⟨rfl, rfl⟩
end Go.Proofs.YtngfmofjonleeaaGreat
