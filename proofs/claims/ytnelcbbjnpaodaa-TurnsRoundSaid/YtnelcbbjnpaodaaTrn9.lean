/-
  Layer 17: the reference's Bins, Back, Round.
-/
import Derived.Test.YtnelcbbjnpaodaaTrn8
import Derived.BigQuiet
namespace Go.Proofs.Ytnelcbbjnpaodaa
open Go.RowKit
set_option linter.unusedVariables false
set_option linter.unusedSimpArgs false
set_option maxRecDepth 100000
set_option maxHeartbeats 8000000 in
theorem tbins_any (f : Nat → Int) (hB : ∀ i, i < 4 → (f i).natAbs ≤ 1152921504606846976) (w : World) :
    Calls Try.prog 14 #[.agg #[.int .i64 (f 0), .int .i64 (f 1), .int .i64 (f 2), .int .i64 (f 3)]] w fun e w' => e = .returned (.agg (vArr 8 (bnV f))) ∧ Below w.heap.size w w' := by
  have h0 : -1152921504606846976 ≤ f 0 ∧ f 0 ≤ 1152921504606846976 := by have := hB 0 (by decide); omega
  obtain ⟨l0, u0⟩ := h0
  have h1 : -1152921504606846976 ≤ f 1 ∧ f 1 ≤ 1152921504606846976 := by have := hB 1 (by decide); omega
  obtain ⟨l1, u1⟩ := h1
  have h2 : -1152921504606846976 ≤ f 2 ∧ f 2 ≤ 1152921504606846976 := by have := hB 2 (by decide); omega
  obtain ⟨l2, u2⟩ := h2
  have h3 : -1152921504606846976 ≤ f 3 ∧ f 3 ≤ 1152921504606846976 := by have := hB 3 (by decide); omega
  obtain ⟨l3, u3⟩ := h3
  clear hB
  obtain ⟨R, hR⟩ : ∃ R, vArr 8 (bnV f) = R := ⟨_, rfl⟩
  rw [hR]
  have HR := Lib.hid hR
  clear hR
  have hB : Below w.heap.size w ((w.alloc (.cells #[.int .i64 (f 0), .int .i64 (f 1), .int .i64 (f 2), .int .i64 (f 3)] 24)).alloc (.cells #[.int .i64 0, .int .i64 0, .int .i64 0, .int .i64 0, .int .i64 0, .int .i64 0, .int .i64 0, .int .i64 0] 29)) := ((Below.refl _ w).alloc (Nat.le_refl _) _).alloc (by simp) _
  have K0 : Blk ((w.alloc (.cells #[.int .i64 (f 0), .int .i64 (f 1), .int .i64 (f 2), .int .i64 (f 3)] 24)).alloc (.cells #[.int .i64 0, .int .i64 0, .int .i64 0, .int .i64 0, .int .i64 0, .int .i64 0, .int .i64 0, .int .i64 0] 29)) (w.heap.size + 1) 29 (vArr 8 fun _ => .int .i64 0) := Blk.new_ (by simp)
  have KA : Blk ((w.alloc (.cells #[.int .i64 (f 0), .int .i64 (f 1), .int .i64 (f 2), .int .i64 (f 3)] 24)).alloc (.cells #[.int .i64 0, .int .i64 0, .int .i64 0, .int .i64 0, .int .i64 0, .int .i64 0, .int .i64 0, .int .i64 0] 29)) w.heap.size 24 #[.int .i64 (f 0), .int .i64 (f 1), .int .i64 (f 2), .int .i64 (f 3)] := Blk.alloc (Blk.new_ rfl) _
  have Q0 := Lib.hid K0
  have QA := Lib.hid KA
  have QB := Lib.hid hB
  clear K0 KA hB
  go_enter Try.func14, Try.ntmps14
  go_upto_region 1 with fail
  generalize World.alloc _ _ = w3 at *
  have KA := QA.out
  have K0 := Q0.out
  have e0 : w3.cell? ⟨w.heap.size, 0, none⟩ = some (.int .i64 (f 0)) := KA.cell 0
  have e1 : w3.cell? ⟨w.heap.size, 1, none⟩ = some (.int .i64 (f 1)) := KA.cell 1
  have e2 : w3.cell? ⟨w.heap.size, 2, none⟩ = some (.int .i64 (f 2)) := KA.cell 2
  have e3 : w3.cell? ⟨w.heap.size, 3, none⟩ = some (.int .i64 (f 3)) := KA.cell 3
  have d0 : w3.cell? ⟨w.heap.size + 1, 0, none⟩ = some (.int .i64 0) := K0.cell 0
  have g0 := K0.frozen 0
  have d1 : w3.cell? ⟨w.heap.size + 1, 1, none⟩ = some (.int .i64 0) := K0.cell 1
  have g1 := K0.frozen 1
  have d2 : w3.cell? ⟨w.heap.size + 1, 2, none⟩ = some (.int .i64 0) := K0.cell 2
  have g2 := K0.frozen 2
  have d3 : w3.cell? ⟨w.heap.size + 1, 3, none⟩ = some (.int .i64 0) := K0.cell 3
  have g3 := K0.frozen 3
  have d4 : w3.cell? ⟨w.heap.size + 1, 4, none⟩ = some (.int .i64 0) := K0.cell 4
  have g4 := K0.frozen 4
  have d5 : w3.cell? ⟨w.heap.size + 1, 5, none⟩ = some (.int .i64 0) := K0.cell 5
  have g5 := K0.frozen 5
  have d6 : w3.cell? ⟨w.heap.size + 1, 6, none⟩ = some (.int .i64 0) := K0.cell 6
  have g6 := K0.frozen 6
  have d7 : w3.cell? ⟨w.heap.size + 1, 7, none⟩ = some (.int .i64 0) := K0.cell 7
  have g7 := K0.frozen 7
  clear KA K0
  go_wp2_with fail
  refine bodyPost_ret (v := .agg (vArr 8 (bnV f))) (results_cell (a := ⟨w.heap.size + 1, 0, none⟩) Try.results14 (by rfl) ((Q0.out.put8 rfl (bnV f)).run_load Try.underlying29 rfl tinfo42)) rfl ?_
  exact ⟨by rw [HR.out], below8 QB.out (by omega) (bnV f)⟩
theorem rfits (b : Nat → Int) : ((List.range 4).all fun i => (List.range 2).all fun j => bns (rnd_ b) (i * 2 + j) == b (i * 2 + j)) = fits b := by
  rw [fits_rbns]
  apply Bool.eq_iff_iff.2
  simp only [List.all_eq_true, List.mem_range, beq_iff_eq]
  constructor
  · intro h j hj
    have := h (j / 2) (by omega) (j % 2) (by omega)
    rwa [show j / 2 * 2 + j % 2 = j by omega] at this
  · intro h i hi j hj
    exact h _ (by omega)
theorem rnd_bd {b : Nat → Int} {M : Nat} (h : ∀ j, j < 8 → (b j).natAbs ≤ M) {n : Nat} (hn : n < 4) : (rnd_ b n).natAbs ≤ M := by
  have h0 := h 0 (by decide)
  have h2 := h 2 (by decide)
  have h3 := h 3 (by decide)
  have h4 := h 4 (by decide)
  have key : (rbk4 b n).natAbs ≤ 4 * M := by
    have : n = 0 ∨ n = 1 ∨ n = 2 ∨ n = 3 := by omega
    rcases this with rfl | rfl | rfl | rfl <;> simp only [rbk4] <;> omega
  have e : (rnd_ b n).natAbs = (rbk4 b n).natAbs / 4 := Int.natAbs_tdiv _ 4
  rw [e]; omega
set_option maxHeartbeats 8000000 in
theorem trback_any (B : Nat → Int) (w : World) : Calls Try.prog 16 #[.agg #[.int .i64 (B 0), .int .i64 (B 1), .int .i64 (B 2), .int .i64 (B 3), .int .i64 (B 4), .int .i64 (B 5), .int .i64 (B 6), .int .i64 (B 7)]] w fun e w' => e = .returned (.tuple #[.agg (iArr .i64 4 (bckV B)), .int .i64 (bckE B)]) ∧ Below w.heap.size w w' := by
  obtain ⟨E, hE⟩ : ∃ E, bckE B = E := ⟨_, rfl⟩
  obtain ⟨V, hV⟩ : ∃ V, bckV B = V := ⟨_, rfl⟩
  rw [hE, hV]
  have HE := Lib.hid hE
  have HV := Lib.hid hV
  have HZ : Hid (E ≠ 0 → iArr .i64 4 V = vArr 4 fun _ => .int .i64 0) := Lib.hid fun he => by
    rw [iArr_v]
    exact vArr_congr fun i _ => by rw [← HV.out]; unfold bckV; rw [hE, if_neg he]
  have hqs : Blk ((w.alloc (.cells #[.int .i64 (B 0), .int .i64 (B 1), .int .i64 (B 2), .int .i64 (B 3), .int .i64 (B 4), .int .i64 (B 5), .int .i64 (B 6), .int .i64 (B 7)] 29)).alloc (.cells #[.int .i64 0, .int .i64 0, .int .i64 0, .int .i64 0] 24)) w.heap.size 29 #[.int .i64 (B 0), .int .i64 (B 1), .int .i64 (B 2), .int .i64 (B 3), .int .i64 (B 4), .int .i64 (B 5), .int .i64 (B 6), .int .i64 (B 7)] := Blk.alloc (Blk.new_ rfl) _
  have hq0 : Blk ((w.alloc (.cells #[.int .i64 (B 0), .int .i64 (B 1), .int .i64 (B 2), .int .i64 (B 3), .int .i64 (B 4), .int .i64 (B 5), .int .i64 (B 6), .int .i64 (B 7)] 29)).alloc (.cells #[.int .i64 0, .int .i64 0, .int .i64 0, .int .i64 0] 24)) (w.heap.size + 1) 24 (vArr 4 fun _ => .int .i64 0) := Blk.new_ (by simp)
  have hB : Below w.heap.size w ((w.alloc (.cells #[.int .i64 (B 0), .int .i64 (B 1), .int .i64 (B 2), .int .i64 (B 3), .int .i64 (B 4), .int .i64 (B 5), .int .i64 (B 6), .int .i64 (B 7)] 29)).alloc (.cells #[.int .i64 0, .int .i64 0, .int .i64 0, .int .i64 0] 24)) := ((Below.refl _ w).alloc (Nat.le_refl _) _).alloc (by simp) _
  have QS := Lib.hid hqs
  have Q0 := Lib.hid hq0
  have QB := Lib.hid hB
  clear hqs hq0 hB hE hV
  go_enter Try.func16, Try.ntmps16
  go_wp2_with fail
  generalize World.alloc _ _ = w3 at *
  go_loopw [4] (fun i wr => ∃ k : Nat, k ≤ 4 ∧ i = .int .i64 k ∧ (∀ j, j < k * 2 → -1099511627776 ≤ B j ∧ B j ≤ 1099511627776) ∧ wr = w3) (fun i _ => 4 - (intOf i).toNat)
  case atStart => exact ⟨0, by omega, rfl, fun j hj => absurd hj (by omega), rfl⟩
  case round =>
    obtain ⟨k, hk, rfl, hin, rfl⟩ := hrel
    have HIN := Lib.hid hin
    clear hin
    by_cases hlt : k < 4
    · have i1 : (k : Int) < 4 := by omega
      go_wp2_with fail
      go_loopw [5] (fun i wz => ∃ m : Nat, m ≤ 2 ∧ i = .int .i64 m ∧ (∀ j, j < k * 2 + m → -1099511627776 ≤ B j ∧ B j ≤ 1099511627776) ∧ wz = wr) (fun i _ => 2 - (intOf i).toNat)
      case atStart => exact ⟨0, by omega, rfl, HIN.out, rfl⟩
      case round =>
        clear HIN
        obtain ⟨m, hm, rfl, hin, rfl⟩ := hrel
        have HIN := Lib.hid hin
        clear hin
        by_cases hltm : m < 2
        · have j1 : (m : Int) < 2 := by omega
          have j2 : (0 : Int) ≤ (m : Int) := by omega
          have i2 : (0 : Int) ≤ (k : Int) := by omega
          obtain ⟨v, hv⟩ : ∃ v, B (k * 2 + m) = v := ⟨_, rfl⟩
          have hc : wr.cell? ⟨w.heap.size, k * 2 + m, none⟩ = some (.int .i64 v) := by rw [QS.out.cell, show (#[.int .i64 (B 0), .int .i64 (B 1), .int .i64 (B 2), .int .i64 (B 3), .int .i64 (B 4), .int .i64 (B 5), .int .i64 (B 6), .int .i64 (B 7)] : Array Value) = vArr 8 (inV B) from rfl, vArr_at 8 _ _ (by omega), ← hv]; rfl
          have HVV := Lib.hid hv
          clear hv
          have K0 := Q0.out
          by_cases h1 : v < -1099511627776
          · obtain rfl : E = 1 := by rw [← HE.out]; unfold bckE; rw [if_pos (farB_at (k := k * 2 + m) (.inl (by rw [HVV.out]; exact h1)) (by omega))]
            have d0 : wr.cell? ⟨w.heap.size + 1, 0, none⟩ = some (.int .i64 0) := K0.cell 0
            have g0 := K0.frozen 0
            have d1 : wr.cell? ⟨w.heap.size + 1, 1, none⟩ = some (.int .i64 0) := K0.cell 1
            have g1 := K0.frozen 1
            have d2 : wr.cell? ⟨w.heap.size + 1, 2, none⟩ = some (.int .i64 0) := K0.cell 2
            have g2 := K0.frozen 2
            have d3 : wr.cell? ⟨w.heap.size + 1, 3, none⟩ = some (.int .i64 0) := K0.cell 3
            have g3 := K0.frozen 3
            clear K0
            go_wp2_with fail
            refine bodyPost_ret (v := .tuple #[.agg (vArr 4 fun _ => .int .i64 0), .int .i64 1]) (results_cell_tmp (a := ⟨w.heap.size + 1, 0, none⟩) Try.results16 (by rfl) ((Q0.out.put4 rfl (fun _ => .int .i64 0)).run_load Try.underlying24 rfl tinfo4) rfl) rfl ?_
            exact ⟨by rw [HZ.out (by decide)], below4 QB.out (by omega) (fun _ => .int .i64 0)⟩
          by_cases h2 : 1099511627776 < v
          · obtain rfl : E = 1 := by rw [← HE.out]; unfold bckE; rw [if_pos (farB_at (k := k * 2 + m) (.inr (by rw [HVV.out]; exact h2)) (by omega))]
            have d0 : wr.cell? ⟨w.heap.size + 1, 0, none⟩ = some (.int .i64 0) := K0.cell 0
            have g0 := K0.frozen 0
            have d1 : wr.cell? ⟨w.heap.size + 1, 1, none⟩ = some (.int .i64 0) := K0.cell 1
            have g1 := K0.frozen 1
            have d2 : wr.cell? ⟨w.heap.size + 1, 2, none⟩ = some (.int .i64 0) := K0.cell 2
            have g2 := K0.frozen 2
            have d3 : wr.cell? ⟨w.heap.size + 1, 3, none⟩ = some (.int .i64 0) := K0.cell 3
            have g3 := K0.frozen 3
            clear K0
            go_wp2_with fail
            refine bodyPost_ret (v := .tuple #[.agg (vArr 4 fun _ => .int .i64 0), .int .i64 1]) (results_cell_tmp (a := ⟨w.heap.size + 1, 0, none⟩) Try.results16 (by rfl) ((Q0.out.put4 rfl (fun _ => .int .i64 0)).run_load Try.underlying24 rfl tinfo4) rfl) rfl ?_
            exact ⟨by rw [HZ.out (by decide)], below4 QB.out (by omega) (fun _ => .int .i64 0)⟩
          clear K0
          go_wp2_with fail
          go_roundw
          case rel =>
            refine ⟨m + 1, by omega, by go_num, fun j hj => ?_, by first | rfl | trivial⟩
            by_cases h : j < k * 2 + m
            · exact HIN.out j h
            · obtain rfl : j = k * 2 + m := by omega
              rw [HVV.out]; omega
          case measure => simp [intOf]; omega
        · have j1 : ¬ (m : Int) < 2 := by omega
          obtain rfl : m = 2 := by omega
          go_wp2_with fail
          go_roundw
          case rel => exact ⟨k + 1, by omega, by go_num, fun j hj => HIN.out j (by omega), by first | rfl | trivial⟩
          case measure => simp [intOf]; omega
    · have i1 : ¬ (k : Int) < 4 := by omega
      obtain rfl : k = 4 := by omega
      have HNF : Hid (farB B 1099511627776 8 = false) := Lib.hid (farB_not.2 fun i hi => HIN.out i (by omega))
      obtain ⟨b00, b01⟩ := HIN.out 0 (by omega)
      obtain ⟨b20, b21⟩ := HIN.out 2 (by omega)
      obtain ⟨b30, b31⟩ := HIN.out 3 (by omega)
      obtain ⟨b40, b41⟩ := HIN.out 4 (by omega)
      have HB8 : Hid (∀ j, j < 8 → (B j).natAbs ≤ 1099511627776) := Lib.hid fun j hj => by have := HIN.out j (by omega); omega
      obtain ⟨U, hU⟩ : ∃ U, rnd_ B = U := ⟨_, rfl⟩
      have hUB : ∀ n, n < 4 → (U n).natAbs ≤ 1099511627776 := fun n hn => by rw [← hU]; exact rnd_bd HB8.out hn
      have r0 : Int.tdiv (B 0 + B 4 + 2 * B 2) 4 = U 0 := by rw [← hU]; rfl
      have r1 : Int.tdiv (B 0 - B 4 - 2 * B 3) 4 = U 1 := by rw [← hU]; rfl
      have r2 : Int.tdiv (B 0 + B 4 - 2 * B 2) 4 = U 2 := by rw [← hU]; rfl
      have r3 : Int.tdiv (B 0 - B 4 + 2 * B 3) 4 = U 3 := by rw [← hU]; rfl
      have HU := Lib.hid hU
      have x0 : IntKind.i64.wrap (U 0) = U 0 := IntWalk.i64_in _ (by have := hUB 0 (by decide); omega)
      have x1 : IntKind.i64.wrap (U 1) = U 1 := IntWalk.i64_in _ (by have := hUB 1 (by decide); omega)
      have x2 : IntKind.i64.wrap (U 2) = U 2 := IntWalk.i64_in _ (by have := hUB 2 (by decide); omega)
      have x3 : IntKind.i64.wrap (U 3) = U 3 := IntWalk.i64_in _ (by have := hUB 3 (by decide); omega)
      have HUB := Lib.hid hUB
      have e0 : wr.cell? ⟨w.heap.size, 0, none⟩ = some (.int .i64 (B 0)) := QS.out.cell 0
      have e2 : wr.cell? ⟨w.heap.size, 2, none⟩ = some (.int .i64 (B 2)) := QS.out.cell 2
      have e3 : wr.cell? ⟨w.heap.size, 3, none⟩ = some (.int .i64 (B 3)) := QS.out.cell 3
      have e4 : wr.cell? ⟨w.heap.size, 4, none⟩ = some (.int .i64 (B 4)) := QS.out.cell 4
      clear hU hUB HIN
      go_wp2_with fail
      go_quiet (fail)
      have KS := QS.out.drewN nq
      have K0 := Q0.out.drewN nq
      have KB : Below w.heap.size w (wr.drewN nq) := below_like QB.out rfl rfl rfl rfl
      generalize wr.drewN nq = wn at *
      obtain ⟨F, hF⟩ : ∃ F, fits B = F := ⟨_, rfl⟩
      have hEF : E = if F = true then 0 else 3 := by rw [← HE.out]; unfold bckE; rw [HNF.out, if_neg (by decide), hF]
      have hE8 : ∀ w, (Op.equalIn 10000 29 (.agg #[.int .i64 (bns U 0), .int .i64 (bns U 1), .int .i64 (bns U 2), .int .i64 (bns U 3), .int .i64 (bns U 4), .int .i64 (bns U 5), .int .i64 (bns U 6), .int .i64 (bns U 7)]) (.agg #[.int .i64 (B 0), .int .i64 (B 1), .int .i64 (B 2), .int .i64 (B 3), .int .i64 (B 4), .int .i64 (B 5), .int .i64 (B 6), .int .i64 (B 7)])).run Try.prog w = .ok F w := fun w => by
        rw [teq8 (bns U) B w, ← HU.out, rfits, hF]
      have HVU : Hid (F = true → iArr .i64 4 V = vArr 4 fun n => .int .i64 (U n)) := Lib.hid fun hft => by
        rw [iArr_v]
        have h0 : bckE B = 0 := by rw [HE.out, hEF, if_pos hft]
        exact vArr_congr fun i hi => by rw [← HV.out, ← HU.out]; unfold bckV; rw [if_pos h0, fits_ref (hF.trans hft) hi]
      clear hF e0 e2 e3 e4
      have KS2 : Blk (wn.alloc (.cells #[.int .i64 (U 0), .int .i64 (U 1), .int .i64 (U 2), .int .i64 (U 3)] 24)) w.heap.size 29 #[.int .i64 (B 0), .int .i64 (B 1), .int .i64 (B 2), .int .i64 (B 3), .int .i64 (B 4), .int .i64 (B 5), .int .i64 (B 6), .int .i64 (B 7)] := KS.alloc _
      have K02 : Blk (wn.alloc (.cells #[.int .i64 (U 0), .int .i64 (U 1), .int .i64 (U 2), .int .i64 (U 3)] 24)) (w.heap.size + 1) 24 (vArr 4 fun _ => .int .i64 0) := K0.alloc _
      have KU : Blk (wn.alloc (.cells #[.int .i64 (U 0), .int .i64 (U 1), .int .i64 (U 2), .int .i64 (U 3)] 24)) wn.heap.size 24 #[.int .i64 (U 0), .int .i64 (U 1), .int .i64 (U 2), .int .i64 (U 3)] := Blk.new wn _ _
      have KB2 : Below w.heap.size w (wn.alloc (.cells #[.int .i64 (U 0), .int .i64 (U 1), .int .i64 (U 2), .int .i64 (U 3)] 24)) := KB.alloc KB.size _
      have hlh : w.heap.size + 1 < wn.heap.size := K0.lt
      obtain ⟨h, hh⟩ : ∃ h, wn.heap.size = h := ⟨_, rfl⟩
      rw [hh] at KU hlh
      have QS := Lib.hid KS2
      have Q0 := Lib.hid K02
      have QU := Lib.hid KU
      have QB := Lib.hid KB2
      clear KS K0 KB KS2 K02 KU KB2
      go_upto_region 11 with fail
      clear hh
      generalize World.alloc _ _ = w6 at *
      cases F with
      | true =>
        obtain rfl : E = 0 := hEF
        refine rg_begin (S := fun w' => Blk w' h 24 #[.int .i64 (U 0), .int .i64 (U 1), .int .i64 (U 2), .int .i64 (U 3)] ∧ Blk w' w.heap.size 29 #[.int .i64 (B 0), .int .i64 (B 1), .int .i64 (B 2), .int .i64 (B 3), .int .i64 (B 4), .int .i64 (B 5), .int .i64 (B 6), .int .i64 (B 7)] ∧ Blk w' (w.heap.size + 1) 24 (vArr 4 fun _ => .int .i64 0)) 4 #[false, false, false, false] (by kernel_rfl) (by kernel_rfl) (by kernel_rfl) ?_ (fun hHeld => ?_)
        · exact ⟨QU.out.drew_, QS.out.drew_, Q0.out.drew_⟩
        refine rg_take (i := 0) (d := some 75) (l := #[true, false, false, false]) (fuel := 3) (v := .agg #[.int .i64 (U 0), .int .i64 (U 1), .int .i64 (U 2), .int .i64 (U 3)]) rfl (by kernel_rfl) (by kernel_rfl) (by kernel_rfl) (by kernel_rfl) (by kernel_rfl) (fun _ _ _ h => h) (by kernel_rfl) ?_ (by assumption) ?_
        · (intro wS hSw; (try dsimp only at hSw); exact exec_load_row 24 (.tmp 10) rfl h rfl 24 #[.int .i64 (U 0), .int .i64 (U 1), .int .i64 (U 2), .int .i64 (U 3)] (0, 0) _ hSw.1 Try.underlying24 rfl (by kernel_rfl))
        try simp only [Act.put, List.setIfInBounds_toArray, List.set_cons_zero, List.set_cons_succ]
        refine rg_take (i := 2) (d := some 77) (l := #[true, false, true, false]) (fuel := 2) (v := .agg #[.int .i64 (B 0), .int .i64 (B 1), .int .i64 (B 2), .int .i64 (B 3), .int .i64 (B 4), .int .i64 (B 5), .int .i64 (B 6), .int .i64 (B 7)]) rfl (by kernel_rfl) (by kernel_rfl) (by kernel_rfl) (by kernel_rfl) (by kernel_rfl) (fun _ _ _ h => h) (by kernel_rfl) ?_ (by assumption) ?_
        · (intro wS hSw; (try dsimp only at hSw); exact exec_load_row 29 (.tmp 1) rfl w.heap.size rfl 29 #[.int .i64 (B 0), .int .i64 (B 1), .int .i64 (B 2), .int .i64 (B 3), .int .i64 (B 4), .int .i64 (B 5), .int .i64 (B 6), .int .i64 (B 7)] (0, 0) _ hSw.2.1 Try.underlying29 rfl (by kernel_rfl))
        try simp only [Act.put, List.setIfInBounds_toArray, List.set_cons_zero, List.set_cons_succ]
        refine rg_next (i := 1) (l := #[true, true, true, false]) (fuel := 1) (by kernel_rfl) rfl (by kernel_rfl) (by kernel_rfl) (fun K hK => ?_)
        go_simp
        (go_at_call 14)
        refine (tbins_any U (fun i hi => by have := HUB.out i hi; omega) _).mono ?_
        rw [show vArr 8 (bnV U) = #[.int .i64 (bns U 0), .int .i64 (bns U 1), .int .i64 (bns U 2), .int .i64 (bns U 3), .int .i64 (bns U 4), .int .i64 (bns U 5), .int .i64 (bns U 6), .int .i64 (bns U 7)] from rfl]
        rintro e w7 ⟨rfl, b7⟩
        have QU := Lib.hid (QU.out.drew_.below b7 QU.out.lt)
        have QS := Lib.hid (QS.out.drew_.below b7 QS.out.lt)
        have Q0 := Lib.hid (Q0.out.drew_.below b7 Q0.out.lt)
        have QB := Lib.hid (QB.out.drew.trans (b7.mono QB.out.size))
        clear b7
        first | (refine hK.out _ _ ?_ (fun hHeld => ?_)) | (go_wp2_with fail; refine hK.out _ _ ?_ (fun hHeld => ?_))
        · (try dsimp only); exact ⟨QU.out, QS.out, Q0.out⟩
        clear hK K
        try simp only [Act.put, List.setIfInBounds_toArray, List.set_cons_zero, List.set_cons_succ]
        refine rg_take (i := 3) (d := some 78) (l := #[true, true, true, true]) (fuel := 0) (v := ?_) rfl (by kernel_rfl) (by kernel_rfl) (by kernel_rfl) (by kernel_rfl) (by kernel_rfl) (fun _ _ _ h => h) (by kernel_rfl) ?_ (by assumption) ?_
        rotate_left 1
        · (intro wS hSw; (try dsimp only at hSw); go_simp; try with_reducible rfl)
        try simp only [Act.put, List.setIfInBounds_toArray, List.set_cons_zero, List.set_cons_succ]
        refine wpAnyH_done (by kernel_rfl) ?_ _
        have K0 := Q0.out
        have KU := QU.out
        have d0 : w7.cell? ⟨w.heap.size + 1, 0, none⟩ = some (.int .i64 0) := K0.cell 0
        have g0 := K0.frozen 0
        have d1 : w7.cell? ⟨w.heap.size + 1, 1, none⟩ = some (.int .i64 0) := K0.cell 1
        have g1 := K0.frozen 1
        have d2 : w7.cell? ⟨w.heap.size + 1, 2, none⟩ = some (.int .i64 0) := K0.cell 2
        have g2 := K0.frozen 2
        have d3 : w7.cell? ⟨w.heap.size + 1, 3, none⟩ = some (.int .i64 0) := K0.cell 3
        have g3 := K0.frozen 3
        have c0 : w7.cell? ⟨h, 0, none⟩ = some (.int .i64 (U 0)) := KU.cell 0
        have c1 : w7.cell? ⟨h, 1, none⟩ = some (.int .i64 (U 1)) := KU.cell 1
        have c2 : w7.cell? ⟨h, 2, none⟩ = some (.int .i64 (U 2)) := KU.cell 2
        have c3 : w7.cell? ⟨h, 3, none⟩ = some (.int .i64 (U 3)) := KU.cell 3
        clear K0 KU
        go_wp2_with fail
        refine bodyPost_ret (v := .tuple #[.agg (vArr 4 fun n => .int .i64 (U n)), .int .i64 0]) (results_cell_tmp (a := ⟨w.heap.size + 1, 0, none⟩) Try.results16 (by rfl) ((Q0.out.put4 rfl (fun n => .int .i64 (U n))).run_load Try.underlying24 rfl tinfo4) rfl) rfl ?_
        exact ⟨by rw [HVU.out (by simp)], below4 QB.out (by omega) (fun n => .int .i64 (U n))⟩
      | false =>
        obtain rfl : E = 3 := hEF
        refine rg_begin (S := fun w' => Blk w' h 24 #[.int .i64 (U 0), .int .i64 (U 1), .int .i64 (U 2), .int .i64 (U 3)] ∧ Blk w' w.heap.size 29 #[.int .i64 (B 0), .int .i64 (B 1), .int .i64 (B 2), .int .i64 (B 3), .int .i64 (B 4), .int .i64 (B 5), .int .i64 (B 6), .int .i64 (B 7)] ∧ Blk w' (w.heap.size + 1) 24 (vArr 4 fun _ => .int .i64 0)) 4 #[false, false, false, false] (by kernel_rfl) (by kernel_rfl) (by kernel_rfl) ?_ (fun hHeld => ?_)
        · exact ⟨QU.out.drew_, QS.out.drew_, Q0.out.drew_⟩
        refine rg_take (i := 0) (d := some 75) (l := #[true, false, false, false]) (fuel := 3) (v := .agg #[.int .i64 (U 0), .int .i64 (U 1), .int .i64 (U 2), .int .i64 (U 3)]) rfl (by kernel_rfl) (by kernel_rfl) (by kernel_rfl) (by kernel_rfl) (by kernel_rfl) (fun _ _ _ h => h) (by kernel_rfl) ?_ (by assumption) ?_
        · (intro wS hSw; (try dsimp only at hSw); exact exec_load_row 24 (.tmp 10) rfl h rfl 24 #[.int .i64 (U 0), .int .i64 (U 1), .int .i64 (U 2), .int .i64 (U 3)] (0, 0) _ hSw.1 Try.underlying24 rfl (by kernel_rfl))
        try simp only [Act.put, List.setIfInBounds_toArray, List.set_cons_zero, List.set_cons_succ]
        refine rg_take (i := 2) (d := some 77) (l := #[true, false, true, false]) (fuel := 2) (v := .agg #[.int .i64 (B 0), .int .i64 (B 1), .int .i64 (B 2), .int .i64 (B 3), .int .i64 (B 4), .int .i64 (B 5), .int .i64 (B 6), .int .i64 (B 7)]) rfl (by kernel_rfl) (by kernel_rfl) (by kernel_rfl) (by kernel_rfl) (by kernel_rfl) (fun _ _ _ h => h) (by kernel_rfl) ?_ (by assumption) ?_
        · (intro wS hSw; (try dsimp only at hSw); exact exec_load_row 29 (.tmp 1) rfl w.heap.size rfl 29 #[.int .i64 (B 0), .int .i64 (B 1), .int .i64 (B 2), .int .i64 (B 3), .int .i64 (B 4), .int .i64 (B 5), .int .i64 (B 6), .int .i64 (B 7)] (0, 0) _ hSw.2.1 Try.underlying29 rfl (by kernel_rfl))
        try simp only [Act.put, List.setIfInBounds_toArray, List.set_cons_zero, List.set_cons_succ]
        refine rg_next (i := 1) (l := #[true, true, true, false]) (fuel := 1) (by kernel_rfl) rfl (by kernel_rfl) (by kernel_rfl) (fun K hK => ?_)
        go_simp
        (go_at_call 14)
        refine (tbins_any U (fun i hi => by have := HUB.out i hi; omega) _).mono ?_
        rw [show vArr 8 (bnV U) = #[.int .i64 (bns U 0), .int .i64 (bns U 1), .int .i64 (bns U 2), .int .i64 (bns U 3), .int .i64 (bns U 4), .int .i64 (bns U 5), .int .i64 (bns U 6), .int .i64 (bns U 7)] from rfl]
        rintro e w7 ⟨rfl, b7⟩
        have QU := Lib.hid (QU.out.drew_.below b7 QU.out.lt)
        have QS := Lib.hid (QS.out.drew_.below b7 QS.out.lt)
        have Q0 := Lib.hid (Q0.out.drew_.below b7 Q0.out.lt)
        have QB := Lib.hid (QB.out.drew.trans (b7.mono QB.out.size))
        clear b7
        first | (refine hK.out _ _ ?_ (fun hHeld => ?_)) | (go_wp2_with fail; refine hK.out _ _ ?_ (fun hHeld => ?_))
        · (try dsimp only); exact ⟨QU.out, QS.out, Q0.out⟩
        clear hK K
        try simp only [Act.put, List.setIfInBounds_toArray, List.set_cons_zero, List.set_cons_succ]
        refine rg_take (i := 3) (d := some 78) (l := #[true, true, true, true]) (fuel := 0) (v := ?_) rfl (by kernel_rfl) (by kernel_rfl) (by kernel_rfl) (by kernel_rfl) (by kernel_rfl) (fun _ _ _ h => h) (by kernel_rfl) ?_ (by assumption) ?_
        rotate_left 1
        · (intro wS hSw; (try dsimp only at hSw); go_simp; try with_reducible rfl)
        try simp only [Act.put, List.setIfInBounds_toArray, List.set_cons_zero, List.set_cons_succ]
        refine wpAnyH_done (by kernel_rfl) ?_ _
        have K0 := Q0.out
        have d0 : w7.cell? ⟨w.heap.size + 1, 0, none⟩ = some (.int .i64 0) := K0.cell 0
        have g0 := K0.frozen 0
        have d1 : w7.cell? ⟨w.heap.size + 1, 1, none⟩ = some (.int .i64 0) := K0.cell 1
        have g1 := K0.frozen 1
        have d2 : w7.cell? ⟨w.heap.size + 1, 2, none⟩ = some (.int .i64 0) := K0.cell 2
        have g2 := K0.frozen 2
        have d3 : w7.cell? ⟨w.heap.size + 1, 3, none⟩ = some (.int .i64 0) := K0.cell 3
        have g3 := K0.frozen 3
        clear K0
        go_wp2_with fail
        refine bodyPost_ret (v := .tuple #[.agg (vArr 4 fun _ => .int .i64 0), .int .i64 3]) (results_cell_tmp (a := ⟨w.heap.size + 1, 0, none⟩) Try.results16 (by rfl) ((Q0.out.put4 rfl (fun _ => .int .i64 0)).run_load Try.underlying24 rfl tinfo4) rfl) rfl ?_
        exact ⟨by rw [HZ.out (by decide)], below4 QB.out (by omega) (fun _ => .int .i64 0)⟩
end Go.Proofs.Ytnelcbbjnpaodaa
