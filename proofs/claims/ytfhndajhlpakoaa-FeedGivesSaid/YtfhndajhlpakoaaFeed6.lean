/-
  The statements' first test of package feed holds.
-/
import Derived.Test.YtfhndajhlpakoaaFeed5
namespace Go.Proofs.Ytfhndajhlpakoaa
open Go.RowKit
set_option linter.unusedVariables false
set_option maxRecDepth 100000
theorem next_v {w : World} {g cb n n' : Nat} {z z' : Nat → Int} {t t' b : Int} (h : FD w g cb n z t) (h0 : 0 ≤ t) (h1 : t ≤ 1000000000) (hb : peekI n z 0 = b) (hn : n' = n - 1) (hz : ∀ i, i < n' → z' i = z (1 + i)) (ht : t' = t + 1) :
    Calls Try.prog 36 #[.pointer (some ⟨g, 0, none⟩)] w (FedR (.int .u8 b) g cb n' z' t' [g, cb] w) := by
  subst hb hn ht
  refine (next_any h h0 h1).mono ?_
  rintro e w' ⟨rfl, q1, q2⟩
  refine ⟨rfl, ?_, q2⟩
  obtain ⟨a, v, b, A, cap, c1, c2, c3, c4, c5⟩ := q1
  exact ⟨a, v, b, A, cap, c1, c2, c3, fun i hi => by rw [hz i hi]; exact c4 i hi, c5⟩
theorem FD.congr {w : World} {g cb n n' : Nat} {z z' : Nat → Int} {t t' : Int} (h : FD w g cb n z t) (hn : n' = n) (hz : ∀ i, i < n' → z' i = z i) (ht : t' = t) : FD w g cb n' z' t' := by
  subst hn ht
  obtain ⟨a, v, b, A, cap, c1, c2, c3, c4, c5⟩ := h
  exact ⟨a, v, b, A, cap, c1, c2, c3, fun i hi => by rw [hz i hi]; exact c4 i hi, c5⟩
theorem fcheck_zero (w : World) : Calls Try.prog 37 #[.agg #[.slice none 0 0, .slice none 0 0, .slice none 0 0]] w fun e w' => e = .returned (.int .i64 0) ∧ Below w.heap.size w w' :=
  fcheck_any none none none 0 0 0 0 0 0 (by omega) (by omega) (by omega)
def z12 (i : Nat) : Int := if i = 0 then 1 else 2
set_option maxHeartbeats 4000000 in
theorem liveF_any (w : World) : Calls Try.prog 28 #[] w fun e w' => e = .returned (.bool true) ∧ Below w.heap.size w w' := by
  go_enter Try.func28, Try.ntmps28
  go_wp2_with fail
  have hR : IRow (w.alloc (.cells #[.int .u8 1, .int .u8 2] 5)) .u8 (some ⟨w.heap.size, 0, none⟩) 2 z12 := fun i hi => by
    have hb := Blk.new w 5 #[.int .u8 1, .int .u8 2]
    refine ⟨_, rfl, by simp, ?_, ?_⟩
    · rw [add_zero_block, hb.cell i]
      rcases i with _ | _ | i
      · rfl
      · rfl
      · omega
    · unfold z12; split <;> decide
  refine (new_any _ 2 2 z12 (fun h => by cases h) (by omega) hR).mono ?_
  clear hR
  rintro e w1 ⟨g, cb, rfl, r1, r2, r3, r4, r5, r6⟩
  have r1' : w.heap.size ≤ g := by simp at r1; omega
  have r2' : w.heap.size ≤ cb := by simp at r2; omega
  have hB := ((Below.refl w.heap.size w).alloc (Nat.le_refl _) (.cells #[.int .u8 1, .int .u8 2] 5)).trans (r6.mono (by simp))
  clear r1 r2 r6
  have R5 := Lib.hid r5
  clear r5
  go_wp2_with fail
  refine (next_v (n' := 1) (z' := fun _ => 2) (t' := 1) (b := 1) R5.out (by decide) (by decide) rfl rfl (fun i hi => by unfold z12; rw [if_neg (by omega)]) rfl).mono ?_
  rintro e w2 ⟨rfl, a1, k1⟩
  have hB2 := k1.onto hB (by have := hB.size; omega) (by simp; omega)
  have A1 := Lib.hid a1
  clear a1
  go_wp2_with fail
  refine (next_v (n' := 0) (z' := fun _ => 2) (t' := 2) (b := 2) A1.out (by decide) (by decide) rfl rfl (fun i hi => absurd hi (by omega)) rfl).mono ?_
  rintro e w3 ⟨rfl, a2, k2⟩
  have hB3 := k2.onto hB2 (by have := hB2.size; omega) (by simp; omega)
  have A2 := Lib.hid a2
  clear a2
  go_wp2_with fail
  refine (next_v (n' := 0) (z' := fun _ => 2) (t' := 3) (b := 255) A2.out (by decide) (by decide) rfl rfl (fun i hi => absurd hi (by omega)) rfl).mono ?_
  rintro e w4 ⟨rfl, a3, k3⟩
  have hB4 := k3.onto hB3 (by have := hB3.size; omega) (by simp; omega)
  have A3 := Lib.hid a3
  clear a3
  go_wp2_with fail
  refine (left_any A3.out).mono ?_
  rintro e w5 ⟨rfl, a4, k4⟩
  have hB5 := k4.onto hB4 (by have := hB4.size; omega) (by simp; omega)
  have A4 := Lib.hid a4
  clear a4
  go_wp2_with fail
  refine (taken_any A4.out).mono ?_
  rintro e w' ⟨rfl, rfl⟩
  go_wp2_with fail
  refine (next_nil _).mono ?_
  rintro e w' ⟨rfl, rfl⟩
  go_wp2_with fail
  refine (left_nil _).mono ?_
  rintro e w' ⟨rfl, rfl⟩
  go_wp2_with fail
  refine (taken_nil _).mono ?_
  rintro e w' ⟨rfl, rfl⟩
  go_wp2_with fail
  refine (fclone_nil _).mono ?_
  rintro e w' ⟨rfl, rfl⟩
  go_wp2_with fail
  refine (peek_nil _ 0 rfl).mono ?_
  rintro e w' ⟨rfl, rfl⟩
  go_wp2_with fail
  refine (fcheck_zero _).mono ?_
  rintro e w6 ⟨rfl, k6⟩
  go_wp2_with fail
  go_ret
  exact ⟨rfl, hB5.trans (k6.mono (by have := hB5.size; omega))⟩
end Go.Proofs.Ytfhndajhlpakoaa
