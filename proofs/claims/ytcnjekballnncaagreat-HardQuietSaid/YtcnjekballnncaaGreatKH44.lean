/-
  Texts of these proofs, one behind the other: Hj6.
-/
import Derived.Test.YtcnjekballnncaaGreatKH43
namespace Go.Proofs.YtcnjekballnncaaGreat
open Go.RowKit
set_option linter.unusedVariables false
set_option linter.unusedSimpArgs false
set_option maxRecDepth 100000
theorem where_bd (off : Int) (h0 : 0 ≤ off) (h1 : off ≤ 65535) : whereI (plA off) = 2 ∨ whereI (plA off) = 3 ∨ whereI (plA off) = 4 ∨ (5 ≤ whereI (plA off) ∧ whereI (plA off) ≤ 8) := by
  unfold whereI partAt plA
  repeat' split
  all_goals first | (exfalso; omega) | decide
theorem fieldBuf (y : Hp) (W : World) : (Instr.field 42 (.agg (stC y)) 0).run Tryz.prog W = .ok (.int .u8 y.buf) W := by kernel_rfl
theorem wr_open {x : Hp} {k r u : Int} (h : k < 5) : x.wr k r u = x := by unfold Hp.wr; rw [if_neg (by omega), if_neg (by omega), if_neg (by omega), if_neg (by omega)]
theorem rv_open {d : Hd} {x : Hp} {r : Int} : x.rv d 2 r = 255 ∧ x.rd d 2 r = x := ⟨rfl, rfl⟩
theorem rd_buf {d : Hd} {x : Hp} {k r : Int} (h : 5 ≤ k ∧ k ≤ 8) : (x.rd d k r).buf = x.rv d k r := by
  have : k = 5 ∨ k = 6 ∨ k = 7 ∨ k = 8 := by omega
  rcases this with rfl | rfl | rfl | rfl <;> rfl
end Go.Proofs.YtcnjekballnncaaGreat
