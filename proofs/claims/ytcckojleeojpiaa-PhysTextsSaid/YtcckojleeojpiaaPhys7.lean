/-
  The statements' first test of package phys holds; it only makes memory.
-/
import Derived.Test.YtcckojleeojpiaaPhys5
import Derived.Test.YtcckojleeojpiaaPhys6
import Derived.Test.YtcckojleeojpiaaG3
import Derived.Deep.AppendLies
namespace Go.Proofs.Ytcckojleeojpiaa
open Go.RowKit
set_option linter.unusedVariables false
theorem keep3 {w w2 w3 w4 : World} {p : Addr} {v : Value} (h2 : Below w.heap.size w w2) (h3 : Below w2.heap.size w2 w3) (h4 : Below w3.heap.size w3 w4) (c : w.cell? p = some v) : w4.cell? p = some v := by
  have l := cell_lt c
  have z2 := h2.size
  have z3 := h3.size
  exact (h4.cell (by omega)).trans ((h3.cell (by omega)).trans ((h2.cell l).trans c))
theorem q_addr (w : World) : Calls Try.prog 13 #[.int .u8 255, .int .u16 3072] w fun e w' => e = .returned (.int .u32 2092032) ∧ w = w' := asV (addr_any 255 3072 w (by decide) (by decide) (by decide) (by decide)) (by kernel_rfl)
theorem q_of (w : World) : Calls Try.prog 25 #[.string ⟨#[70, 70, 58, 48, 67, 48, 48]⟩] w fun e w' => e = .returned (.tuple #[.int .u32 2092032, .int .i64 0]) ∧ Below w.heap.size w w' := asV (of_any ⟨#[70, 70, 58, 48, 67, 48, 48]⟩ w (by decide)) (by rw [of_ref]; kernel_rfl)
theorem q_where (w : World) : Calls Try.prog 18 #[.int .u32 2092032] w fun e w' => e = .returned (.int .u8 6) ∧ Below w.heap.size w w' := asV (where_any 2092032 w (by decide) (by decide)) (by kernel_rfl)
theorem q_text (w : World) : Calls Try.prog 24 #[.int .u32 2092032] w fun e w' => e = .returned (.string ⟨#[70, 70, 58, 48, 67, 48, 48]⟩) ∧ Below w.heap.size w w' := asV (text_any 2092032 w (by decide) (by decide)) (by kernel_rfl)
theorem q_extra (w : World) : Calls Try.prog 20 #[.int .u32 2088960] w fun e w' => e = .returned (.bool true) ∧ Below w.heap.size w w' := asV (extra_any 2088960 w (by decide) (by decide)) (by kernel_rfl)
theorem q_reg (w : World) : Calls Try.prog 22 #[.int .u32 2092033] w fun e w' => e = .returned (.int .i64 1) ∧ Below w.heap.size w w' := asV (reg_any 2092033 w (by decide) (by decide)) (by kernel_rfl)
theorem q_bank (w : World) : Calls Try.prog 14 #[.int .u32 2092032] w fun e w' => e = .returned (.int .u8 255) ∧ w = w' := asV (bank_any 2092032 w (by decide) (by decide)) (by kernel_rfl)
theorem q_off (w : World) : Calls Try.prog 16 #[.int .u32 2092032] w fun e w' => e = .returned (.int .u16 3072) ∧ w = w' := asV (off_any 2092032 w (by decide) (by decide)) (by kernel_rfl)
theorem q_span (w : World) : Calls Try.prog 28 #[.int .u8 1] w fun e w' => (∃ g c, e = .returned (.slice (some ⟨g, 0, none⟩) 1 c) ∧ w'.cell? ⟨g, 0, none⟩ = some (.int .u32 2031616) ∧ w'.cell? ⟨g, 1, none⟩ = some (.int .u32 32768)) ∧ Below w.heap.size w w' :=
  (span_any 1 w (by decide) (by decide)).mono fun e w' ⟨v, he, hown, hB⟩ => by
    have h1 : spanTo 1 11 = [(2031616, 32768)] := by decide +kernel
    rw [h1] at hown
    obtain ⟨g, cap, rfl, _, _⟩ := hown.form (by decide)
    refine ⟨⟨g, cap, he, ?_, ?_⟩, hB⟩
    · have := hown.cells (g := g) rfl 0 _ rfl
      rwa [add_zero_block] at this
    · have := hown.cells (g := g) rfl 1 _ rfl
      rwa [add_zero_block] at this
set_option maxHeartbeats 1000000 in
theorem live_any (w : World) : Calls Try.prog 12 #[] w fun e w' => e = .returned (.bool true) ∧ Below w.heap.size w w' := by
  have heq : ∀ w : World, (binOp .eql 38 (.agg #[.int .u32 2031616, .int .u32 32768]) (.agg #[.int .u32 2031616, .int .u32 32768])).run Try.prog w = .ok (.bool true) w := fun _ => by kernel_rfl
  go_enter Try.func12, Try.ntmps12
  go_wp2_with (first
    | (go_at_call 13; refine (q_addr _).mono ?_; rintro e w' ⟨rfl, rfl⟩)
    | (go_at_call 14; refine (q_bank _).mono ?_; rintro e w' ⟨rfl, rfl⟩)
    | (go_at_call 16; refine (q_off _).mono ?_; rintro e w' ⟨rfl, rfl⟩)
    | (go_at_call 28; refine (q_span _).mono ?_; rintro e w1 ⟨⟨g, c, rfl, c0, c1⟩, hb1⟩)
    | (go_at_call 25; refine (q_of _).mono ?_; rintro e w2 ⟨rfl, hb2⟩)
    | (go_at_call 18; refine (q_where _).mono ?_; rintro e w3 ⟨rfl, hb3⟩)
    | (go_at_call 24; refine (q_text _).mono ?_; rintro e w4 ⟨rfl, hb4⟩; have d0 := keep3 hb2 hb3 hb4 c0; have d1 := keep3 hb2 hb3 hb4 c1)
    | (go_at_call 20; refine (q_extra _).mono ?_; rintro e w5 ⟨rfl, hb5⟩)
    | (go_at_call 22; refine (q_reg _).mono ?_; rintro e w6 ⟨rfl, hb6⟩))
  go_ret
  have z1 := hb1.size
  have z2 := hb2.size
  have z3 := hb3.size
  have z4 := hb4.size
  have z5 := hb5.size
  exact ⟨rfl, ((((hb1.trans (hb2.mono z1)).trans (hb3.mono (by omega))).trans (hb4.mono (by omega))).trans (hb5.mono (by omega))).trans (hb6.mono (by omega))⟩
end Go.Proofs.Ytcckojleeojpiaa
