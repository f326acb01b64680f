/-
  Noise: many steps at once.
-/
import Derived.Test.YtnelcbbjnpaodaaNoi3
namespace Go.Proofs.Ytnelcbbjnpaodaa
open Go.RowKit
set_option linter.unusedVariables false
set_option linter.unusedSimpArgs false
set_option maxRecDepth 100000
theorem half_even (t e : Nat) (h : t % 2 = 0) : t * e = t / 2 * (2 * e) := by
  have h2 : t / 2 * 2 = t := by omega
  rw [← Nat.mul_assoc, h2]
theorem half_odd (t e : Nat) (h : t % 2 = 1) : t * e = e + t / 2 * (2 * e) := by
  have h2 : t / 2 * 2 + 1 = t := by omega
  rw [← Nat.mul_assoc, Nat.add_comm, ← Nat.succ_mul]
  congr 1; omega
theorem neg_neg64 {N : Nat} (h : N ≤ 9223372036854775808) (h0 : 0 < N) : IntKind.u64.wrap (-IntKind.u64.wrap (-(N : Int))) = (N : Int) := by
  have e (n : Int) : IntKind.u64.wrap n = n % 18446744073709551616 := by simp [IntKind.wrap, IntKind.bits, IntKind.signed]
  rw [e, e]; omega
theorem storeM (F : Nat → Nat) (W : World) : (storeCells ⟨W.heap.size, 0, none⟩ (mArr F).toList).run Try.prog (W.alloc (.cells (iArr .u32 18 fun _ => 0) 78)) = .ok () (W.alloc (.cells (mArr F) 78)) :=
  run_storeCells_new (P := Try.prog) W 78 (iArr .u32 18 fun _ => 0) (mArr F) (by rw [mArr_size]; exact sizeM) (by rw [iArr_size, mArr_size]) (by rw [Array.all_eq_true]; intro i hi; exact mArr_one F _ (by simp))
set_option maxHeartbeats 4000000 in
theorem jump_on (s N : Nat) (hs : s < 4294967296) (hN : N ≤ 9223372036854775807) (w : World) :
    Calls Try.prog 46 #[.int .u32 s, .int .i64 N] w fun e w' => e = .returned (.int .u32 (it nx N (s % 2 ^ 18) : Nat)) ∧ Below w.heap.size w w' := by
  have hz0 := zeroM
  have hst := storeM nx
  have hsz := mArr_size
  have HI : Hid (∀ F, (Try.prog.info? 78).map (·.size) = some (mArr F).size) := Lib.hid fun F => by rw [mArr_size]; exact sizeM
  have p18 : s % 262144 < 2 ^ 18 := Nat.mod_lt _ (by decide)
  rw [show (2 : Nat) ^ 18 = 262144 from rfl]
  obtain ⟨s0, hs0⟩ : ∃ s0, s % 262144 = s0 := ⟨_, rfl⟩
  rw [hs0] at p18 ⊢
  have hs1 : (s : Int) % 262144 = (s0 : Int) := by rw [← hs0]; rfl
  have P18 := Lib.hid p18
  clear hs0 p18
  go_enter Try.func46, Try.ntmps46
  go_wp2_with fail
  refine (of_next _).mono ?_
  rintro e w1 ⟨rfl, b1⟩
  go_wp2_with fail
  have HM : Hid (Blk (w1.alloc (.cells (mArr nx) 78)) w1.heap.size 78 (mArr (it nx 1))) := Lib.hid (Blk.new w1 _ _)
  have HB := Lib.hid (b1.alloc b1.size (.cells (mArr nx) 78))
  have HGB := Lib.hid b1.size
  generalize hg : w1.heap.size = g at *
  generalize w1.alloc _ = w2 at *
  clear hg b1
  clear hz0 hst hsz
  go_loopw [0, 6] (fun x y wr => ∃ e d t : Nat, x = .int .u32 (it nx d s0 : Nat) ∧ y = .int .u64 t ∧ d + t * e = N ∧ t ≤ N ∧ Blk wr g 78 (mArr (it nx e)) ∧ Below w.heap.size w wr) (fun _ y _ => (intOf y).toNat)
  case atStart => exact ⟨1, 0, N, by rw [hs1]; rfl, rfl, by omega, Nat.le_refl _, HM.out, HB.out⟩
  case round =>
    obtain ⟨e, d, t, rfl, rfl, hd, ht, hM, hB⟩ := hrel
    have HM2 := Lib.hid hM
    have HB2 := Lib.hid hB
    have HD := Lib.hid hd
    clear hM hB hd HM HB hs1
    by_cases h0 : t = 0
    · subst h0
      have e1 : d = N := by have := HD.out; omega
      subst e1
      go_wp2_with fail
      go_ret
      exact ⟨rfl, HB2.out⟩
    · have j0 : (0 : Int) < (t : Int) := by omega
      rcases Nat.mod_two_eq_zero_or_one t with h1 | h1
      · have k1 : (t : Int) % 2 = 0 := by omega
        obtain ⟨d', rfl⟩ : ∃ d', d' = d := ⟨_, rfl⟩
        replace HD : Hid (d' + (t / 2) * (2 * e) = N) := Lib.hid (by rw [← half_even t e h1]; exact HD.out)
        have HM3 := HM2
        have HB3 := HB2
        clear HM2 HB2
        by_cases h2 : t / 2 = 0
        · exfalso; omega
        · obtain ⟨t2, ht2⟩ : ∃ t2, t / 2 = t2 := ⟨_, rfl⟩
          have j1 : ((t : Int) / 2) = (t2 : Int) := by omega
          have j2 : (0 : Int) < (t2 : Int) := by omega
          have HT2 := Lib.hid ht2
          clear ht2
          have hq := HM3.out
          go_wp2_with (refine wpList_load_row rfl 78 (.tmp 5) rfl g (by rfl) 78 (mArr (it nx e)) (0, 0) _ hq Try.underlying78 rfl (HI.out (it nx e)) ?_)
          refine (of_twice (it_lin nx_lin e) _).mono ?_
          rw [show (fun s => it nx e (it nx e s)) = it nx (2 * e) from funext fun s => lin_of nx e s]
          rintro e' w4 ⟨rfl, b4⟩
          have hq2 := HM3.out.below b4 HM3.out.lt
          have hst := hq2.run_store (P := Try.prog) (mArr (it nx (2 * e))) (by rw [mArr_size, mArr_size]) (mArr_one _)
          have hsz := mArr_size (it nx (2 * e))
          have hB4 := HB3.out.trans (b4.mono HB3.out.size)
          have HM4 := Lib.hid (hq2.row (mArr (it nx (2 * e))))
          have HB4 := Lib.hid (below_setRow hB4 HGB.out (mArr (it nx (2 * e))))
          clear hq hq2 hB4 b4
          go_wp2_with fail
          go_roundw
          case rel => exact ⟨2 * e, d', t2, by first | rfl | trivial, by first | rfl | trivial, by rw [← HT2.out]; exact HD.out, by omega, HM4.out, HB4.out⟩
          case measure => simp [intOf] <;> omega

      · have k1 : (t : Int) % 2 = 1 := by omega
        have hq := HM2.out
        have dl : it nx d s0 < 2 ^ 18 := it_lt nx_lin d P18.out
        have DL := Lib.hid dl
        clear dl
        go_wp2_with (refine wpList_load_row rfl 78 (.tmp 5) rfl g (by rfl) 78 (mArr (it nx e)) (0, 0) _ hq Try.underlying78 rfl (HI.out (it nx e)) ?_)
        refine (leads_any (it_lin nx_lin e) (it nx d s0) DL.out _).mono ?_
        rw [← it_add]
        rintro e' w3 ⟨rfl, b3⟩
        have HM3 := Lib.hid (HM2.out.below b3 HM2.out.lt)
        have HB3 := Lib.hid (HB2.out.trans (b3.mono HB2.out.size))
        obtain ⟨d', hd'⟩ : ∃ d', d' = d + e := ⟨_, rfl⟩
        rw [← hd']
        replace HD : Hid (d' + (t / 2) * (2 * e) = N) := Lib.hid (by rw [hd', Nat.add_assoc, ← half_odd t e h1]; exact HD.out)
        clear HM2 HB2 b3 hq hd' DL
        by_cases h2 : t / 2 = 0
        · have j1 : ((t : Int) / 2) = 0 := by omega
          go_wp2_with fail
          go_roundw
          case rel => exact ⟨e, d', 0, by first | rfl | trivial, by first | rfl | trivial, by have := HD.out; rw [h2, Nat.zero_mul] at this; rw [Nat.zero_mul]; exact this, by omega, HM3.out, HB3.out⟩
          case measure => simp [intOf] <;> omega
        · obtain ⟨t2, ht2⟩ : ∃ t2, t / 2 = t2 := ⟨_, rfl⟩
          have j1 : ((t : Int) / 2) = (t2 : Int) := by omega
          have j2 : (0 : Int) < (t2 : Int) := by omega
          have HT2 := Lib.hid ht2
          clear ht2
          have hq := HM3.out
          go_wp2_with (refine wpList_load_row rfl 78 (.tmp 5) rfl g (by rfl) 78 (mArr (it nx e)) (0, 0) _ hq Try.underlying78 rfl (HI.out (it nx e)) ?_)
          refine (of_twice (it_lin nx_lin e) _).mono ?_
          rw [show (fun s => it nx e (it nx e s)) = it nx (2 * e) from funext fun s => lin_of nx e s]
          rintro e' w4 ⟨rfl, b4⟩
          have hq2 := HM3.out.below b4 HM3.out.lt
          have hst := hq2.run_store (P := Try.prog) (mArr (it nx (2 * e))) (by rw [mArr_size, mArr_size]) (mArr_one _)
          have hsz := mArr_size (it nx (2 * e))
          have hB4 := HB3.out.trans (b4.mono HB3.out.size)
          have HM4 := Lib.hid (hq2.row (mArr (it nx (2 * e))))
          have HB4 := Lib.hid (below_setRow hB4 HGB.out (mArr (it nx (2 * e))))
          clear hq hq2 hB4 b4
          go_wp2_with fail
          go_roundw
          case rel => exact ⟨2 * e, d', t2, by first | rfl | trivial, by first | rfl | trivial, by rw [← HT2.out]; exact HD.out, by omega, HM4.out, HB4.out⟩
          case measure => simp [intOf] <;> omega

set_option maxHeartbeats 4000000 in
theorem jump_off (s N : Nat) (hs : s < 4294967296) (hN : N ≤ 9223372036854775808) (hN0 : 0 < N) (w : World) :
    Calls Try.prog 46 #[.int .u32 s, .int .i64 (-(N : Int))] w fun e w' => e = .returned (.int .u32 (it bk N (s % 2 ^ 18) : Nat)) ∧ Below w.heap.size w w' := by
  have hz0 := zeroM
  have hst := storeM nx
  have hsz := mArr_size
  have HI : Hid (∀ F, (Try.prog.info? 78).map (·.size) = some (mArr F).size) := Lib.hid fun F => by rw [mArr_size]; exact sizeM
  have p18 : s % 262144 < 2 ^ 18 := Nat.mod_lt _ (by decide)
  rw [show (2 : Nat) ^ 18 = 262144 from rfl]
  obtain ⟨s0, hs0⟩ : ∃ s0, s % 262144 = s0 := ⟨_, rfl⟩
  rw [hs0] at p18 ⊢
  have hs1 : (s : Int) % 262144 = (s0 : Int) := by rw [← hs0]; rfl
  have P18 := Lib.hid p18
  clear hs0 p18
  go_enter Try.func46, Try.ntmps46
  go_wp2_with fail
  refine (of_next _).mono ?_
  rintro e w1 ⟨rfl, b1⟩
  go_wp2_with fail
  have hq := Blk.new w1 78 (mArr nx)
  have HB0 := Lib.hid (b1.alloc b1.size (.cells (mArr nx) 78))
  have HGB := Lib.hid b1.size
  generalize hg : w1.heap.size = g at *
  generalize w1.alloc _ = w2 at *
  have HQ := Lib.hid hq
  clear hg b1 hq
  refine (of_back _).mono ?_
  rintro e w3 ⟨rfl, b3⟩
  have hq := HQ.out.below b3 HQ.out.lt
  clear hst
  have hst := hq.run_store (P := Try.prog) (mArr bk) (by rw [mArr_size, mArr_size]) (mArr_one _)
  have HM := Lib.hid (hq.row (mArr bk))
  have hB4 := HB0.out.trans (b3.mono HB0.out.size)
  have HB := Lib.hid (below_setRow hB4 HGB.out (mArr bk))
  clear HQ HB0 hB4 b3 hq
  go_wp2_with fail
  clear hz0 hst hsz
  go_loopw [0, 6] (fun x y wr => ∃ e d t : Nat, x = .int .u32 (it bk d s0 : Nat) ∧ y = .int .u64 t ∧ d + t * e = N ∧ t ≤ N ∧ Blk wr g 78 (mArr (it bk e)) ∧ Below w.heap.size w wr) (fun _ y _ => (intOf y).toNat)
  case atStart => exact ⟨1, 0, N, by rw [hs1]; rfl, by rw [neg_neg64 hN hN0], by omega, Nat.le_refl _, HM.out, HB.out⟩
  case round =>
    obtain ⟨e, d, t, rfl, rfl, hd, ht, hM, hB⟩ := hrel
    have HM2 := Lib.hid hM
    have HB2 := Lib.hid hB
    have HD := Lib.hid hd
    clear hM hB hd HM HB hs1
    by_cases h0 : t = 0
    · subst h0
      have e1 : d = N := by have := HD.out; omega
      subst e1
      go_wp2_with fail
      go_ret
      exact ⟨rfl, HB2.out⟩
    · have j0 : (0 : Int) < (t : Int) := by omega
      rcases Nat.mod_two_eq_zero_or_one t with h1 | h1
      · have k1 : (t : Int) % 2 = 0 := by omega
        obtain ⟨d', rfl⟩ : ∃ d', d' = d := ⟨_, rfl⟩
        replace HD : Hid (d' + (t / 2) * (2 * e) = N) := Lib.hid (by rw [← half_even t e h1]; exact HD.out)
        have HM3 := HM2
        have HB3 := HB2
        clear HM2 HB2
        by_cases h2 : t / 2 = 0
        · exfalso; omega
        · obtain ⟨t2, ht2⟩ : ∃ t2, t / 2 = t2 := ⟨_, rfl⟩
          have j1 : ((t : Int) / 2) = (t2 : Int) := by omega
          have j2 : (0 : Int) < (t2 : Int) := by omega
          have HT2 := Lib.hid ht2
          clear ht2
          have hq := HM3.out
          go_wp2_with (refine wpList_load_row rfl 78 (.tmp 5) rfl g (by rfl) 78 (mArr (it bk e)) (0, 0) _ hq Try.underlying78 rfl (HI.out (it bk e)) ?_)
          refine (of_twice (it_lin bk_lin e) _).mono ?_
          rw [show (fun s => it bk e (it bk e s)) = it bk (2 * e) from funext fun s => lin_of bk e s]
          rintro e' w4 ⟨rfl, b4⟩
          have hq2 := HM3.out.below b4 HM3.out.lt
          have hst := hq2.run_store (P := Try.prog) (mArr (it bk (2 * e))) (by rw [mArr_size, mArr_size]) (mArr_one _)
          have hsz := mArr_size (it bk (2 * e))
          have hB4 := HB3.out.trans (b4.mono HB3.out.size)
          have HM4 := Lib.hid (hq2.row (mArr (it bk (2 * e))))
          have HB4 := Lib.hid (below_setRow hB4 HGB.out (mArr (it bk (2 * e))))
          clear hq hq2 hB4 b4
          go_wp2_with fail
          go_roundw
          case rel => exact ⟨2 * e, d', t2, by first | rfl | trivial, by first | rfl | trivial, by rw [← HT2.out]; exact HD.out, by omega, HM4.out, HB4.out⟩
          case measure => simp [intOf] <;> omega

      · have k1 : (t : Int) % 2 = 1 := by omega
        have hq := HM2.out
        have dl : it bk d s0 < 2 ^ 18 := it_lt bk_lin d P18.out
        have DL := Lib.hid dl
        clear dl
        go_wp2_with (refine wpList_load_row rfl 78 (.tmp 5) rfl g (by rfl) 78 (mArr (it bk e)) (0, 0) _ hq Try.underlying78 rfl (HI.out (it bk e)) ?_)
        refine (leads_any (it_lin bk_lin e) (it bk d s0) DL.out _).mono ?_
        rw [← it_add]
        rintro e' w3 ⟨rfl, b3⟩
        have HM3 := Lib.hid (HM2.out.below b3 HM2.out.lt)
        have HB3 := Lib.hid (HB2.out.trans (b3.mono HB2.out.size))
        obtain ⟨d', hd'⟩ : ∃ d', d' = d + e := ⟨_, rfl⟩
        rw [← hd']
        replace HD : Hid (d' + (t / 2) * (2 * e) = N) := Lib.hid (by rw [hd', Nat.add_assoc, ← half_odd t e h1]; exact HD.out)
        clear HM2 HB2 b3 hq hd' DL
        by_cases h2 : t / 2 = 0
        · have j1 : ((t : Int) / 2) = 0 := by omega
          go_wp2_with fail
          go_roundw
          case rel => exact ⟨e, d', 0, by first | rfl | trivial, by first | rfl | trivial, by have := HD.out; rw [h2, Nat.zero_mul] at this; rw [Nat.zero_mul]; exact this, by omega, HM3.out, HB3.out⟩
          case measure => simp [intOf] <;> omega
        · obtain ⟨t2, ht2⟩ : ∃ t2, t / 2 = t2 := ⟨_, rfl⟩
          have j1 : ((t : Int) / 2) = (t2 : Int) := by omega
          have j2 : (0 : Int) < (t2 : Int) := by omega
          have HT2 := Lib.hid ht2
          clear ht2
          have hq := HM3.out
          go_wp2_with (refine wpList_load_row rfl 78 (.tmp 5) rfl g (by rfl) 78 (mArr (it bk e)) (0, 0) _ hq Try.underlying78 rfl (HI.out (it bk e)) ?_)
          refine (of_twice (it_lin bk_lin e) _).mono ?_
          rw [show (fun s => it bk e (it bk e s)) = it bk (2 * e) from funext fun s => lin_of bk e s]
          rintro e' w4 ⟨rfl, b4⟩
          have hq2 := HM3.out.below b4 HM3.out.lt
          have hst := hq2.run_store (P := Try.prog) (mArr (it bk (2 * e))) (by rw [mArr_size, mArr_size]) (mArr_one _)
          have hsz := mArr_size (it bk (2 * e))
          have hB4 := HB3.out.trans (b4.mono HB3.out.size)
          have HM4 := Lib.hid (hq2.row (mArr (it bk (2 * e))))
          have HB4 := Lib.hid (below_setRow hB4 HGB.out (mArr (it bk (2 * e))))
          clear hq hq2 hB4 b4
          go_wp2_with fail
          go_roundw
          case rel => exact ⟨2 * e, d', t2, by first | rfl | trivial, by first | rfl | trivial, by rw [← HT2.out]; exact HD.out, by omega, HM4.out, HB4.out⟩
          case measure => simp [intOf] <;> omega

/-- So many steps, on or back. -/
theorem jump_any (s : Nat) (n : Int) (hs : s < 4294967296) (wn : -9223372036854775808 ≤ n ∧ n ≤ 9223372036854775807) (w : World) :
    Calls Try.prog 46 #[.int .u32 s, .int .i64 n] w fun e w' => e = .returned (.int .u32 (jmp n (s % 2 ^ 18) : Nat)) ∧ Below w.heap.size w w' := by
  unfold jmp
  by_cases h : 0 ≤ n
  · obtain ⟨N, rfl⟩ := Int.eq_ofNat_of_zero_le h
    rw [if_pos h]
    exact jump_on s N hs (by omega) w
  · obtain ⟨N, hN⟩ := Int.eq_ofNat_of_zero_le (a := -n) (by omega)
    obtain rfl : n = -(N : Int) := by omega
    rw [if_neg h, show (- -(N : Int)).toNat = N by omega]
    exact jump_off s N hs (by omega) (by omega) w
end Go.Proofs.Ytnelcbbjnpaodaa
