/-
  Logic: the answer's Eor.
-/
import Derived.Test.YtkmcfmflihkdjaaLgc3
namespace Go.Proofs.Ytkmcfmflihkdjaa
open Go.RowKit
set_option linter.unusedVariables false
set_option linter.unusedSimpArgs false
set_option maxRecDepth 100000
set_option maxHeartbeats 8000000 in
theorem reor_any (a b : Int) (w : World) (a0 : 0 ≤ a) (a1 : a ≤ 255) (b0 : 0 ≤ b) (b1 : b ≤ 255) : Calls Try.prog 33 #[.int .u8 a, .int .u8 b] w fun e w' => e = .returned (.int .u8 (bits .xor .u8 a b)) ∧ Below w.heap.size w w' := by
  have X := Lib.hid (xor_of a b a0 a1 b0 b1)
  have hst := fun W c' h h' => run_storeCells_new (P := Try.prog) W 60 #[.bool false, .bool false, .bool false, .bool false, .bool false, .bool false, .bool false, .bool false] c' (by rw [← h]; kernel_rfl) h h'
  go_enter Try.func33, Try.ntmps33
  go_wp2_with fail
  refine wp_loop_rounds 9 ?_
  repeat any_goals (rw [rounds_succ]; go_wp2_with (go_at_call 57; refine (rbit_any _ _ _ (by omega) (by omega)).mono ?_; rintro e w' ⟨rfl, rfl⟩))
  refine (of_any _ _ _ _ _ _ _ _ _).mono ?_
  rintro e w2 ⟨rfl, b2⟩
  have B2 : Hid (Below w.heap.size w w2) := Lib.hid (Below.trans ((Below.refl w.heap.size w).alloc (Nat.le_refl _) _) (Below.mono b2 (Nat.le_of_lt (by rw [World.size_alloc]; exact Nat.lt_succ_self _))))
  go_wp2_with fail
  go_ret
  refine ⟨?_, ?_⟩
  · rw [← X.out]; rfl
  · exact B2.out
set_option maxHeartbeats 8000000 in
theorem rtest_any (a m p : Int) (w : World) (a0 : 0 ≤ a) (a1 : a ≤ 255) (m0 : 0 ≤ m) (m1 : m ≤ 255) (p0 : 0 ≤ p) (p1 : p ≤ 255) :
    Calls Try.prog 30 #[.int .u8 a, .int .u8 m, .int .u8 p] w fun e w' => e = .returned (.int .u8 (ltS a m p)) ∧ Below w.heap.size w w' := by
  have SA := Lib.hid (sk_all m a m0 m1 a0 a1)
  have BA := Lib.hid (fun (n : Int) W => rbit_any a n W a0 a1)
  have BM := Lib.hid (fun (n : Int) W => rbit_any m n W m0 m1)
  obtain ⟨e7, e6, _⟩ := bit_eq m m0 m1
  obtain ⟨q, hq⟩ : ∃ q, flS p 128 (rbit m 7) = q := ⟨_, rfl⟩
  obtain ⟨t, ht⟩ : ∃ t, flS q 64 (rbit m 6) = t := ⟨_, rfl⟩
  obtain ⟨q0, q1⟩ := flS_bd p 128 (rbit m 7)
  obtain ⟨t0, t1⟩ := flS_bd q 64 (rbit m 6)
  rw [hq] at q0 q1
  rw [ht] at t0 t1
  have S7 := fun W => rfset_any p 7 (rbit m 7) W p0 p1
  have S6 := fun W => rfset_any q 6 (rbit m 6) W q0 q1
  have S1 := fun W => rfset_any t 1 (!flI m a) W t0 t1
  rw [(fl_all p _ p0 p1).2.2.1, hq] at S7
  rw [(fl_all q _ q0 q1).2.1, ht] at S6
  rw [(fl_all t _ t0 t1).2.2.2] at S1
  have hv : ltS a m p = flS t 2 (!flI m a) := by
    unfold ltS
    rw [e7, e6, hq, ht]
    congr 1
    unfold flI
    rw [and_comm' a m a0 a1 m0 m1]
    cases h : (bits .and .u8 a m == 0) <;> simp_all [bne]
  rw [hv]
  have H7 := Lib.hid S7
  have H6 := Lib.hid S6
  have H1 := Lib.hid S1
  clear S7 S6 S1 hv hq ht q0 q1 t0 t1 e7 e6 a0 a1 m0 m1 p0 p1
  go_enter Try.func30, Try.ntmps30
  go_wp2_with fail
  go_loopw [7, 8] (fun q i wr => ∃ k : Nat, k ≤ 8 ∧ i = .int .i64 k ∧ q = .bool (!sk m a k) ∧ wr = w) (fun _ i _ => 8 - (intOf i).toNat)
  case atStart => exact ⟨0, by omega, rfl, rfl, rfl⟩
  case round =>
    obtain ⟨k, hk, rfl, rfl, rfl⟩ := hrel
    by_cases hlt : k < 8
    · have e : sk m a (k + 1) = if rbit a k then sk m a k || rbit m k else sk m a k := rfl
      have BK := BA.out (k : Int)
      have MK := BM.out (k : Int)
      obtain ⟨b, hb⟩ : ∃ b, rbit a (k : Int) = b := ⟨_, rfl⟩
      obtain ⟨c, hc⟩ : ∃ c, rbit m (k : Int) = c := ⟨_, rfl⟩
      obtain ⟨r, hr⟩ : ∃ r, sk m a k = r := ⟨_, rfl⟩
      rw [hb] at e BK
      rw [hc] at e MK
      rw [hr] at e ⊢
      have HBK := Lib.hid BK
      have HMK := Lib.hid MK
      have E := Lib.hid e
      clear hb hc hr BK MK e
      cases b <;> cases c
      all_goals
        go_wp2_with fail
        refine (HBK.out _).mono ?_
        rintro e w' ⟨rfl, rfl⟩
        go_wp2_with fail
        try (refine (HMK.out _).mono ?_; rintro e w' ⟨rfl, rfl⟩; go_wp2_with fail)
        go_roundw
        case rel => exact ⟨k + 1, by omega, by go_num, by rw [E.out]; simp, by first | rfl | trivial⟩
        case measure => simp [intOf]; omega
    · obtain rfl : k = 8 := by omega
      rw [SA.out]
      go_wp2_with fail
      refine (BM.out _ _).mono ?_
      rintro e w' ⟨rfl, rfl⟩
      go_wp2_with fail
      refine (H7.out _).mono ?_
      rintro e w1 ⟨rfl, b1⟩
      have HB1 := Lib.hid b1
      clear b1
      go_wp2_with fail
      refine (BM.out _ _).mono ?_
      rintro e w' ⟨rfl, rfl⟩
      go_wp2_with fail
      refine (H6.out _).mono ?_
      rintro e w2 ⟨rfl, b2⟩
      have HB2 := Lib.hid (HB1.out.trans (b2.mono HB1.out.size))
      clear b2
      go_wp2_with fail
      refine (H1.out _).mono ?_
      rintro e w3 ⟨rfl, b3⟩
      have HB3 := Lib.hid (HB2.out.trans (b3.mono HB2.out.size))
      clear b3
      go_wp2_with fail
      go_ret
      exact ⟨rfl, HB3.out⟩
end Go.Proofs.Ytkmcfmflihkdjaa
