/-
  What the reference of phys answers: Bank, Off, Where, Extra, Reg; the same as phys.
-/
import Derived.Test.YtfhndajhlpakoaaPhys1
namespace Go.Proofs.Ytfhndajhlpakoaa
open Go.RowKit
set_option linter.unusedVariables false
theorem bankI_bd (a : Int) : 0 ≤ bankI a ∧ bankI a ≤ 255 := by unfold bankI; omega
theorem offI_bd (a : Int) : 0 ≤ offI a ∧ offI a ≤ 8191 := by unfold offI; omega
theorem where_rom (a : Int) (h : bankI a < 128) : whereI a = 0 := by
  have : a % 2097152 < 1048576 := by unfold bankI at h; omega
  unfold whereI partAt; rw [if_pos this]; rfl
theorem where_open1 (a : Int) (h0 : 128 ≤ bankI a) (h1 : bankI a < 248) : whereI a = 2 := by
  unfold bankI at h0 h1; unfold whereI partAt; rw [if_neg (by omega), if_pos (by omega)]; rfl
theorem where_ram (a : Int) (h0 : 248 ≤ bankI a) (h1 : bankI a ≤ 251) : whereI a = 1 := by
  unfold bankI at h0 h1; unfold whereI partAt; rw [if_neg (by omega), if_neg (by omega), if_pos (by omega)]; rfl
theorem where_open2 (a : Int) (h0 : 252 ≤ bankI a) (h1 : bankI a < 255) : whereI a = 2 := by
  unfold bankI at h0 h1; unfold whereI partAt; rw [if_neg (by omega), if_neg (by omega), if_neg (by omega), if_pos (by omega)]; rfl
theorem where_open3 (a : Int) (h0 : bankI a = 255) (h1 : 6144 ≤ offI a) : whereI a = 2 := by
  unfold bankI at h0; unfold offI at h1; unfold whereI partAt
  rw [if_neg (by omega), if_neg (by omega), if_neg (by omega), if_neg (by omega), if_neg (by omega), if_neg (by omega), if_neg (by omega), if_neg (by omega), if_neg (by omega), if_neg (by omega)]; rfl
theorem where_unit (a : Int) (h0 : bankI a = 255) (h1 : offI a < 6144) : whereI a = 3 + offI a / 1024 := by
  unfold bankI at h0; unfold offI at h1 ⊢; unfold whereI partAt
  (repeat' split) <;> simp only [kindN] <;> omega
def unitC : Array Value := #[.int .u8 3, .int .u8 4, .int .u8 5, .int .u8 6, .int .u8 7, .int .u8 8]
end Go.Proofs.Ytfhndajhlpakoaa
