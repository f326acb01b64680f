/-
  What the reference's With, Left, Right and digits answer, for every byte; they only make memory.
-/
import Derived.Test.YtkmcfmflihkdjaaA7
import Derived.Deep.RegionWith
namespace Go.Proofs.Ytkmcfmflihkdjaa
open Go.RowKit
def bitsL (b : Int) : List Bool := [rbit b 0, rbit b 1, rbit b 2, rbit b 3, rbit b 4, rbit b 5, rbit b 6, rbit b 7]
def rwith (b n : Int) (on : Bool) : Int := if 0 ≤ n ∧ n ≤ 7 then ofTo ((bitsL b).set n.toNat on) 8 else b
set_option maxHeartbeats 1000000 in
theorem rwith_any (b n : Int) (on : Bool) (w : World) (h0 : 0 ≤ b) (h1 : b ≤ 255) :
    Calls Try.prog 61 #[.int .u8 b, .int .i64 n, .bool on] w fun e w' => e = .returned (.int .u8 (rwith b n on)) ∧ Below w.heap.size w w' := by
  have hst := fun W c' h h' => run_storeCells_new (P := Try.prog) W 60 #[.bool false, .bool false, .bool false, .bool false, .bool false, .bool false, .bool false, .bool false] c' (by rw [← h]; kernel_rfl) h h'
  by_cases a : n < 0
  · have H : Hid (rwith b n on = b) := by show _ = _; unfold rwith; rw [if_neg (by omega)]
    go_enter Try.func61, Try.ntmps61
    go_wp2_with fail
    go_ret
    exact ⟨by rw [H.out]; rfl, Below.refl _ _⟩
  by_cases c : 7 < n
  · have H : Hid (rwith b n on = b) := by show _ = _; unfold rwith; rw [if_neg (by omega)]
    go_enter Try.func61, Try.ntmps61
    go_wp2_with fail
    go_ret
    exact ⟨by rw [H.out]; rfl, Below.refl _ _⟩
  have : n = 0 ∨ n = 1 ∨ n = 2 ∨ n = 3 ∨ n = 4 ∨ n = 5 ∨ n = 6 ∨ n = 7 := by omega
  clear a c
  rcases this with rfl | rfl | rfl | rfl | rfl | rfl | rfl | rfl
  all_goals
    go_enter Try.func61, Try.ntmps61
    go_wp2_with (first | (go_at_call 73; refine (bits_any _ _ h0 h1).mono ?_; rintro e w1 ⟨rfl, hb1⟩; have hz1 := hb1.size) | (go_at_call 60; refine (of_any _ _ _ _ _ _ _ _ _).mono ?_; rintro e w2 ⟨rfl, hb2⟩))
    go_ret
    exact ⟨rfl, (hb1.alloc hz1 _).trans (hb2.mono (by simp; omega))⟩
set_option maxHeartbeats 1000000 in
theorem rleft_any (b : Int) (i : Bool) (w : World) (h0 : 0 ≤ b) (h1 : b ≤ 255) :
    Calls Try.prog 63 #[.int .u8 b, .bool i] w fun e w' => e = .returned (.tuple #[.int .u8 (ofTo [i, rbit b 0, rbit b 1, rbit b 2, rbit b 3, rbit b 4, rbit b 5, rbit b 6] 8), .bool (rbit b 7)]) ∧ Below w.heap.size w w' := by
  have hst := fun W c' h h' => run_storeCells_new (P := Try.prog) W 60 #[.bool false, .bool false, .bool false, .bool false, .bool false, .bool false, .bool false, .bool false] c' (by rw [← h]; kernel_rfl) h h'
  go_enter Try.func63, Try.ntmps63
  go_wp2_with (first | (go_at_call 73; refine (bits_any _ _ h0 h1).mono ?_; rintro e w1 ⟨rfl, hb1⟩; have hz1 := hb1.size))
  refine wp_loop_rounds 8 ?_
  repeat any_goals (rw [rounds_succ]; go_wp2_with fail)
  go_region_with (go_at_call 60; refine (of_any _ _ _ _ _ _ _ _ _).mono ?_; rintro e w2 ⟨rfl, hb2⟩; obtain ⟨hc, hf⟩ := bcell hb2)
  all_goals
    go_wp2_with fail
    go_ret2
    exact ⟨rfl, (((hb1.alloc hz1 _).alloc (by simp; omega) _).drew).trans (hb2.mono (by simp; omega))⟩
set_option maxHeartbeats 1000000 in
theorem rright_any (b : Int) (i : Bool) (w : World) (h0 : 0 ≤ b) (h1 : b ≤ 255) :
    Calls Try.prog 64 #[.int .u8 b, .bool i] w fun e w' => e = .returned (.tuple #[.int .u8 (ofTo [rbit b 1, rbit b 2, rbit b 3, rbit b 4, rbit b 5, rbit b 6, rbit b 7, i] 8), .bool (rbit b 0)]) ∧ Below w.heap.size w w' := by
  have hst := fun W c' h h' => run_storeCells_new (P := Try.prog) W 60 #[.bool false, .bool false, .bool false, .bool false, .bool false, .bool false, .bool false, .bool false] c' (by rw [← h]; kernel_rfl) h h'
  go_enter Try.func64, Try.ntmps64
  go_wp2_with (first | (go_at_call 73; refine (bits_any _ _ h0 h1).mono ?_; rintro e w1 ⟨rfl, hb1⟩; have hz1 := hb1.size))
  refine wp_loop_rounds 8 ?_
  repeat any_goals (rw [rounds_succ]; go_wp2_with fail)
  go_region_with (go_at_call 60; refine (of_any _ _ _ _ _ _ _ _ _).mono ?_; rintro e w2 ⟨rfl, hb2⟩; obtain ⟨hc, hf⟩ := bcell hb2)
  all_goals
    go_wp2_with fail
    go_ret2
    exact ⟨rfl, (((hb1.alloc hz1 _).alloc (by simp; omega) _).drew).trans (hb2.mono (by simp; omega))⟩
end Go.Proofs.Ytkmcfmflihkdjaa
