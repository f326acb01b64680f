/-
  The statements' first test of package octet holds; it only makes memory.
-/
import Derived.Test.YtlpicadfldbifaaB1
namespace Go.Proofs.Ytlpicadfldbifaa
open Go.RowKit
theorem asV {P : Program} {f : FuncId} {args : Array Value} {w : World} {v v' : Value} {Q : World → Prop} (h : Calls P f args w fun e w' => e = .returned v ∧ Q w') (e : v = v') : Calls P f args w fun e w' => e = .returned v' ∧ Q w' := e ▸ h
theorem l_left (w : World) : Calls Try.prog 24 #[.int .u8 129, .bool false] w fun e w' => e = .returned (.tuple #[.int .u8 2, .bool true]) ∧ w = w' := asV (left_any 129 false w) (by kernel_rfl)
theorem l_right (w : World) : Calls Try.prog 25 #[.int .u8 129, .bool true] w fun e w' => e = .returned (.tuple #[.int .u8 192, .bool true]) ∧ w = w' := asV (right_any 129 true w) (by kernel_rfl)
theorem l_pack (w : World) : Calls Try.prog 30 #[.int .i64 42] w fun e w' => e = .returned (.tuple #[.int .u8 66, .int .i64 0]) ∧ w = w' := asV (pack_yes 42 w (by decide) (by decide)) (by kernel_rfl)
theorem l_unpack (w : World) : Calls Try.prog 31 #[.int .u8 74] w fun e w' => e = .returned (.tuple #[.int .i64 0, .int .i64 3]) ∧ w = w' := unpack_no 74 w (by decide) (by decide) (by decide)
theorem l_fromhex (w : World) : Calls Try.prog 33 #[.string ⟨#[49, 70, 70, 52, 48, 50]⟩] w fun e w' => e = .returned (.tuple #[.int .u32 2094082, .int .i64 0]) ∧ Below w.heap.size w w' := asV (fromhex_mid ⟨#[49, 70, 70, 52, 48, 50]⟩ w (by decide) (by decide)) (by kernel_rfl)
theorem l_hex (w : World) : Calls Try.prog 32 #[.int .u32 2094082, .int .i64 6] w fun e w' => e = .returned (.string ⟨#[49, 70, 70, 52, 48, 50]⟩) ∧ Below w.heap.size w w' := asV (hex_any 2094082 6 w (by decide) (by decide)) (by kernel_rfl)
theorem l_bit (w : World) : Calls Try.prog 17 #[.int .u8 4, .int .i64 2] w fun e w' => e = .returned (.bool true) ∧ w = w' := asV (bit_any 4 2 w) (by kernel_rfl)
theorem l_with (w : World) : Calls Try.prog 15 #[.int .u8 0, .int .i64 7, .bool true] w fun e w' => e = .returned (.int .u8 128) ∧ w = w' := asV (with_any 0 7 true w) (by kernel_rfl)
theorem l_word (w : World) : Calls Try.prog 19 #[.int .u8 1, .int .u8 2] w fun e w' => e = .returned (.int .u16 513) ∧ w = w' := asV (word_any 1 2 w) (by kernel_rfl)
theorem l_lo (w : World) : Calls Try.prog 20 #[.int .u16 513] w fun e w' => e = .returned (.int .u8 1) ∧ w = w' := asV (lo_any 513 w) (by kernel_rfl)
theorem l_hi (w : World) : Calls Try.prog 21 #[.int .u16 513] w fun e w' => e = .returned (.int .u8 2) ∧ w = w' := asV (hi_any 513 w) (by kernel_rfl)
theorem l_signed (w : World) : Calls Try.prog 22 #[.int .u8 255] w fun e w' => e = .returned (.int .i64 (-1)) ∧ w = w' := asV (signed_any 255 w) (by kernel_rfl)
theorem l_count (w : World) : Calls Try.prog 28 #[.int .u8 7] w fun e w' => e = .returned (.int .i64 3) ∧ w = w' := asV (count_any 7 w) (by kernel_rfl)
theorem l_first (w : World) : Calls Try.prog 29 #[.int .u8 12] w fun e w' => e = .returned (.int .i64 2) ∧ w = w' := asV (first_any 12 w) (by kernel_rfl)
set_option maxHeartbeats 1000000 in
theorem live_any (w : World) : Calls Try.prog 14 #[] w fun e w' => e = .returned (.bool true) ∧ Below w.heap.size w w' := by
  go_enter Try.func14, Try.ntmps14
  go_wp2_with (first
    | (go_at_call 24; refine (l_left _).mono ?_; rintro e w' ⟨rfl, rfl⟩)
    | (go_at_call 25; refine (l_right _).mono ?_; rintro e w' ⟨rfl, rfl⟩)
    | (go_at_call 30; refine (l_pack _).mono ?_; rintro e w' ⟨rfl, rfl⟩)
    | (go_at_call 31; refine (l_unpack _).mono ?_; rintro e w' ⟨rfl, rfl⟩)
    | (go_at_call 33; refine (l_fromhex _).mono ?_; rintro e w1 ⟨rfl, hb1⟩)
    | (go_at_call 32; refine (l_hex _).mono ?_; rintro e w2 ⟨rfl, hb2⟩)
    | (go_at_call 17; refine (l_bit _).mono ?_; rintro e w' ⟨rfl, rfl⟩)
    | (go_at_call 15; refine (l_with _).mono ?_; rintro e w' ⟨rfl, rfl⟩)
    | (go_at_call 19; refine (l_word _).mono ?_; rintro e w' ⟨rfl, rfl⟩)
    | (go_at_call 20; refine (l_lo _).mono ?_; rintro e w' ⟨rfl, rfl⟩)
    | (go_at_call 21; refine (l_hi _).mono ?_; rintro e w' ⟨rfl, rfl⟩)
    | (go_at_call 22; refine (l_signed _).mono ?_; rintro e w' ⟨rfl, rfl⟩)
    | (go_at_call 28; refine (l_count _).mono ?_; rintro e w' ⟨rfl, rfl⟩)
    | (go_at_call 29; refine (l_first _).mono ?_; rintro e w' ⟨rfl, rfl⟩))
  go_ret
  exact ⟨rfl, hb1.trans (hb2.mono hb1.size)⟩
end Go.Proofs.Ytlpicadfldbifaa
