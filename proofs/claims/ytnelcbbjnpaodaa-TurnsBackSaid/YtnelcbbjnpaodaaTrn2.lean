/-
  Layer 17: Fold; the reference's Fold.
-/
import Derived.Test.YtnelcbbjnpaodaaTrn1
import Derived.Test.YtnelcbbjnpaodaaG14
import Derived.Test.YtnelcbbjnpaodaaG22
namespace Go.Proofs.Ytnelcbbjnpaodaa
open Go.RowKit
set_option linter.unusedVariables false
set_option linter.unusedSimpArgs false
set_option maxRecDepth 100000
/-- The sum of those of the first n whose place is r modulo 4. -/
def fsm (z : Nat → Int) : Nat → Nat → Int
  | 0, _ => 0
  | n + 1, r => if r = n % 4 then fsm z n (n % 4) + z n else fsm z n r
theorem fsm_bd {z : Nat → Int} {n : Nat} (h : ∀ i, i < n → -262144 ≤ z i ∧ z i ≤ 262144) (r : Nat) : (fsm z n r).natAbs ≤ 262144 * n := by
  induction n generalizing r with
  | zero => simp [fsm]
  | succ n ih =>
    have a := ih (fun i hi => h i (by omega)) r
    have b := ih (fun i hi => h i (by omega)) (n % 4)
    have c := h n (by omega)
    simp only [fsm]
    split <;> omega
theorem fsm_congr {z y : Nat → Int} {n : Nat} (h : ∀ i, i < n → z i = y i) (r : Nat) : fsm z n r = fsm y n r := by
  induction n generalizing r with
  | zero => rfl
  | succ n ih => simp only [fsm]; rw [ih (fun i hi => h i (by omega)), ih (fun i hi => h i (by omega)), h n (by omega)]
/-- What Fold answers. -/
def fldV (z : Nat → Int) (n : Nat) (r : Nat) : Int := if rowE z n = 0 then fsm z n r else 0
theorem fldV_bd (z : Nat → Int) (n r : Nat) : (fldV z n r).natAbs ≤ 1073741824 := by
  unfold fldV
  split
  · rename_i h
    unfold rowE at h
    split at h
    · cases h
    · split at h
      · cases h
      · rename_i h1 h2
        have := fsm_bd (farB_not.1 (Bool.eq_false_iff.2 h2)) r
        omega
  · decide
theorem tinfo4 : (Try.prog.info? 24).map (·.size) = some 4 := by kernel_rfl
set_option maxHeartbeats 4000000 in
theorem tfold_any {w : World} {A : Option Addr} {n c : Nat} {z : Nat → Int} (hR : IRow w .i64 A n z) (hn : n ≤ 9223372036854775000) :
    Calls Try.prog 10 #[.slice A n c] w fun e w' => e = .returned (.tuple #[.agg (iArr .i64 4 (fldV z n)), .int .i64 (rowE z n)]) ∧ Below w.heap.size w w' := by
  have HR := Lib.hid hR
  clear hR
  obtain ⟨E, hE⟩ : ∃ E, rowE z n = E := ⟨_, rfl⟩
  obtain ⟨V, hV⟩ : ∃ V, fldV z n = V := ⟨_, rfl⟩
  rw [hE, hV]
  have HE := Lib.hid hE
  have HV := Lib.hid hV
  clear hE hV
  have hb0 : Blk ((w.alloc (.cells #[.int .i64 0, .int .i64 0, .int .i64 0, .int .i64 0] 24)).alloc (.cells #[.int .i64 0, .int .i64 0, .int .i64 0, .int .i64 0] 24)) w.heap.size 24 (iArr .i64 4 fun _ => 0) := Blk.alloc (Blk.new w _ _) _
  have hb1 : Blk ((w.alloc (.cells #[.int .i64 0, .int .i64 0, .int .i64 0, .int .i64 0] 24)).alloc (.cells #[.int .i64 0, .int .i64 0, .int .i64 0, .int .i64 0] 24)) (w.heap.size + 1) 24 (iArr .i64 4 fun _ => 0) := Blk.new_ (by simp)
  have hB : Below w.heap.size w ((w.alloc (.cells #[.int .i64 0, .int .i64 0, .int .i64 0, .int .i64 0] 24)).alloc (.cells #[.int .i64 0, .int .i64 0, .int .i64 0, .int .i64 0] 24)) := ((Below.refl _ w).alloc (Nat.le_refl _) _).alloc (by simp) _
  have H0 := Lib.hid hb0
  have H1 := Lib.hid hb1
  have HB := Lib.hid hB
  clear hb0 hb1 hB
  have HV0 : E ≠ 0 → iArr .i64 4 V = iArr .i64 4 fun _ => 0 := fun he => iArr_congr fun i _ => by rw [← HV.out]; unfold fldV; rw [HE.out, if_neg he]
  have HZ := Lib.hid HV0
  clear HV0
  by_cases h0 : 4096 < n
  · obtain rfl : E = 2 := by rw [← HE.out]; unfold rowE; rw [if_pos h0]
    have i0 : (4096 : Int) < n := by omega
    go_enter Try.func10, Try.ntmps10
    go_wp2_with fail
    refine bodyPost_ret (v := .tuple #[.agg (iArr .i64 4 fun _ => 0), .int .i64 2]) (results_cell_tmp (a := ⟨w.heap.size, 0, none⟩) Try.results10 (by rfl) (H0.out.run_load Try.underlying24 rfl tinfo4) rfl) rfl ?_
    exact ⟨by rw [HZ.out (by decide)], HB.out⟩
  have i0 : ¬ (4096 : Int) < n := by omega
  obtain ⟨F, hF⟩ : ∃ F, farB z 262144 n = F := ⟨_, rfl⟩
  have HF := Lib.hid hF
  have HN := Lib.hid h0
  cases F with
  | true =>
    obtain rfl : E = 1 := by rw [← HE.out]; unfold rowE; rw [if_neg h0, hF]; rfl
    clear hF
    go_enter Try.func10, Try.ntmps10
    go_wp2_with fail
    refine (tbeyond_any (HR.out.keep HB.out) hn 262144 (by decide) (by decide)).mono ?_
    rw [HF.out]
    rintro e w' ⟨rfl, rfl⟩
    go_wp2_with fail
    refine bodyPost_ret (v := .tuple #[.agg (iArr .i64 4 fun _ => 0), .int .i64 1]) (results_cell_tmp (a := ⟨w.heap.size, 0, none⟩) Try.results10 (by rfl) (H0.out.run_load Try.underlying24 rfl tinfo4) rfl) rfl ?_
    exact ⟨by rw [HZ.out (by decide)], HB.out⟩
  | false =>
  have hE0 : rowE z n = 0 := by unfold rowE; rw [if_neg h0, hF]; rfl
  obtain rfl : E = 0 := HE.out.symm.trans hE0
  have hVf : ∀ r, V r = fsm z n r := fun r => by rw [← HV.out]; unfold fldV; rw [if_pos hE0]
  have HVf := Lib.hid hVf
  have HFa := Lib.hid (farB_not.1 hF)
  clear hF hE0 hVf h0
  go_enter Try.func10, Try.ntmps10
  go_wp2_with fail
  refine (tbeyond_any (HR.out.keep HB.out) hn 262144 (by decide) (by decide)).mono ?_
  rw [HF.out]
  rintro e w' ⟨rfl, rfl⟩
  go_wp2_with fail
  generalize World.alloc _ _ = w2 at *
  go_loopw [5, 6, 18] (fun a b i wr => ∃ k : Nat, k ≤ n ∧ i = .int .i64 k ∧ Blk wr w.heap.size 24 (iArr .i64 4 fun _ => 0) ∧ Blk wr (w.heap.size + 1) 24 (iArr .i64 4 (fsm z k)) ∧ Below w.heap.size w wr) (fun _ _ i _ => n - (intOf i).toNat)
  case atStart => exact ⟨0, by omega, rfl, H0.out, H1.out, HB.out⟩
  case round =>
    obtain ⟨k, hk, rfl, hq0, hq1, hB⟩ := hrel
    have Q0 := Lib.hid hq0
    have Q1 := Lib.hid hq1
    have QB := Lib.hid hB
    clear hq0 hB
    by_cases hlt : k < n
    · have i1 : (k : Int) < n := by omega
      obtain ⟨ad, rfl, hl, hc, hw⟩ := (HR.out.keep QB.out) k hlt
      have hvb := HFa.out k hlt
      have hab := fsm_bd (n := k) (fun i hi => HFa.out i (by omega)) (k % 4)
      obtain ⟨v, hv⟩ : ∃ v, z k = v := ⟨_, rfl⟩
      obtain ⟨u, hu⟩ : ∃ u, fsm z k (k % 4) = u := ⟨_, rfl⟩
      rw [hv] at hc hw hvb
      rw [hu] at hab
      have hk4 : k % 4 < 4 := Nat.mod_lt _ (by decide)
      have hcu : wr.cell? ⟨w.heap.size + 1, k % 4, none⟩ = some (.int .i64 u) := by rw [hq1.cell, iArr_at .i64 4 _ _ hk4, hu]
      have hfu : wr.frozen? ⟨w.heap.size + 1, k % 4, none⟩ = false := hq1.frozen _
      have HU := Lib.hid hu
      have HVv := Lib.hid hv
      clear hu hv hq1
      go_wp2_with fail
      go_roundw
      case rel =>
        refine ⟨k + 1, by omega, by go_num, Q0.out.far (p := ⟨w.heap.size + 1, k % 4, none⟩) (by simp) _, ?_, QB.out.setCell (p := ⟨w.heap.size + 1, k % 4, none⟩) (by simp) _⟩
        have := Q1.out.set_ (k % 4) (.int .i64 (u + v))
        rw [iArr_set] at this
        have e : iArr .i64 4 (fun j => if j = k % 4 then u + v else fsm z k j) = iArr .i64 4 (fsm z (k + 1)) := iArr_congr fun i _ => by simp only [fsm]; rw [HU.out, HVv.out]
        rw [e] at this
        exact this
      case measure => simp [intOf]; omega
    · have i1 : ¬ (k : Int) < n := by omega
      obtain rfl : k = n := by omega
      have c0 : wr.cell? ⟨w.heap.size + 1, 0, none⟩ = some (.int .i64 (V 0)) := by rw [hq1.cell, iArr_at .i64 4 _ _ (by decide), HVf.out]
      have c1 : wr.cell? ⟨w.heap.size + 1, 1, none⟩ = some (.int .i64 (V 1)) := by rw [hq1.cell, iArr_at .i64 4 _ _ (by decide), HVf.out]
      have c2 : wr.cell? ⟨w.heap.size + 1, 2, none⟩ = some (.int .i64 (V 2)) := by rw [hq1.cell, iArr_at .i64 4 _ _ (by decide), HVf.out]
      have c3 : wr.cell? ⟨w.heap.size + 1, 3, none⟩ = some (.int .i64 (V 3)) := by rw [hq1.cell, iArr_at .i64 4 _ _ (by decide), HVf.out]
      have d0 : wr.cell? ⟨w.heap.size, 0, none⟩ = some (.int .i64 0) := Q0.out.cell 0
      have d1 : wr.cell? ⟨w.heap.size, 1, none⟩ = some (.int .i64 0) := Q0.out.cell 1
      have d2 : wr.cell? ⟨w.heap.size, 2, none⟩ = some (.int .i64 0) := Q0.out.cell 2
      have d3 : wr.cell? ⟨w.heap.size, 3, none⟩ = some (.int .i64 0) := Q0.out.cell 3
      have g0 := Q0.out.frozen 0
      have g1 := Q0.out.frozen 1
      have g2 := Q0.out.frozen 2
      have g3 := Q0.out.frozen 3
      clear hq1
      go_wp2_with fail
      refine bodyPost_ret (v := .tuple #[.agg (iArr .i64 4 V), .int .i64 0]) (results_cell_tmp (a := ⟨w.heap.size, 0, none⟩) Try.results10 (by rfl) ((Q0.out.put4 rfl (fun i => .int .i64 (V i))).run_load Try.underlying24 rfl tinfo4) rfl) rfl ?_
      exact ⟨rfl, below4 QB.out (Nat.le_refl _) (fun i => .int .i64 (V i))⟩
set_option maxHeartbeats 4000000 in
theorem trfold_any {w : World} {A : Option Addr} {n c : Nat} {z : Nat → Int} (hR : IRow w .i64 A n z) (hn : n ≤ 9223372036854775000) :
    Calls Try.prog 13 #[.slice A n c] w fun e w' => e = .returned (.tuple #[.agg (iArr .i64 4 (fldV z n)), .int .i64 (rowE z n)]) ∧ Below w.heap.size w w' := by
  have HR := Lib.hid hR
  clear hR
  obtain ⟨E, hE⟩ : ∃ E, rowE z n = E := ⟨_, rfl⟩
  obtain ⟨V, hV⟩ : ∃ V, fldV z n = V := ⟨_, rfl⟩
  rw [hE, hV]
  have HE := Lib.hid hE
  have HV := Lib.hid hV
  have hb0 : Blk ((w.alloc (.cells #[.int .i64 0, .int .i64 0, .int .i64 0, .int .i64 0] 24)).alloc (.cells #[.int .i64 0, .int .i64 0, .int .i64 0, .int .i64 0] 24)) w.heap.size 24 (iArr .i64 4 fun _ => 0) := Blk.alloc (Blk.new w _ _) _
  have hb1 : Blk ((w.alloc (.cells #[.int .i64 0, .int .i64 0, .int .i64 0, .int .i64 0] 24)).alloc (.cells #[.int .i64 0, .int .i64 0, .int .i64 0, .int .i64 0] 24)) (w.heap.size + 1) 24 (iArr .i64 4 fun _ => 0) := Blk.new_ (by simp)
  have hB : Below w.heap.size w ((w.alloc (.cells #[.int .i64 0, .int .i64 0, .int .i64 0, .int .i64 0] 24)).alloc (.cells #[.int .i64 0, .int .i64 0, .int .i64 0, .int .i64 0] 24)) := ((Below.refl _ w).alloc (Nat.le_refl _) _).alloc (by simp) _
  have H0 := Lib.hid hb0
  have H1 := Lib.hid hb1
  have HB := Lib.hid hB
  have HV0 : E ≠ 0 → iArr .i64 4 V = iArr .i64 4 fun _ => 0 := fun he => iArr_congr fun i _ => by rw [← HV.out]; unfold fldV; rw [HE.out, if_neg he]
  have HZ := Lib.hid HV0
  clear hb0 hb1 hB hV HV0
  by_cases h0 : E = 0
  · subst h0
    have hfar : n ≤ 4096 ∧ farB z 262144 n = false := by
      unfold rowE at hE
      split at hE
      · cases hE
      · split at hE
        · cases hE
        · rename_i h1 h2; exact ⟨by omega, Bool.eq_false_iff.2 h2⟩
    have hVf : ∀ r, V r = fsm z n r := fun r => by rw [← HV.out]; unfold fldV; rw [if_pos hE]
    have HVf := Lib.hid hVf
    have HFa := Lib.hid (farB_not.1 hfar.2)
    have hn2 := hfar.1
    clear hE hfar hVf
    go_enter Try.func13, Try.ntmps13
    go_wp2_with fail
    refine (twrong_any (HR.out.keep HB.out) hn).mono ?_
    rw [HE.out]
    rintro e w' ⟨rfl, rfl⟩
    go_wp2_with fail
    generalize World.alloc _ _ = w2 at *
    go_loopw [6] (fun i wr => ∃ k : Nat, k ≤ n ∧ i = .int .i64 k ∧ Blk wr w.heap.size 24 (iArr .i64 4 fun _ => 0) ∧ Blk wr (w.heap.size + 1) 24 (iArr .i64 4 (fsm z k)) ∧ Below w.heap.size w wr) (fun i _ => n - (intOf i).toNat)
    case atStart => exact ⟨0, by omega, rfl, H0.out, H1.out, HB.out⟩
    case round =>
      obtain ⟨k, hk, rfl, hq0, hq1, hB⟩ := hrel
      have Q0 := Lib.hid hq0
      have Q1 := Lib.hid hq1
      have QB := Lib.hid hB
      clear hq0 hB
      by_cases hlt : k < n
      · have i1 : (k : Int) < n := by omega
        have i2 : (0 : Int) ≤ (k : Int) := by omega
        obtain ⟨ad, rfl, hl, hc, hw⟩ := (HR.out.keep QB.out) k hlt
        have hvb := HFa.out k hlt
        have hab := fsm_bd (n := k) (fun i hi => HFa.out i (by omega)) (k % 4)
        obtain ⟨v, hv⟩ : ∃ v, z k = v := ⟨_, rfl⟩
        obtain ⟨u, hu⟩ : ∃ u, fsm z k (k % 4) = u := ⟨_, rfl⟩
        rw [hv] at hc hw hvb
        rw [hu] at hab
        have hk4 : k % 4 < 4 := Nat.mod_lt _ (by decide)
        have hcu : wr.cell? ⟨w.heap.size + 1, k % 4, none⟩ = some (.int .i64 u) := by rw [hq1.cell, iArr_at .i64 4 _ _ hk4, hu]
        have hfu : wr.frozen? ⟨w.heap.size + 1, k % 4, none⟩ = false := hq1.frozen _
        have HU := Lib.hid hu
        have HVv := Lib.hid hv
        clear hu hv hq1
        go_wp2_with fail
        go_region
        all_goals
          go_wp2_with fail
          go_roundw
          case rel =>
            refine ⟨k + 1, by omega, by go_num, Q0.out.drew_.far (p := ⟨w.heap.size + 1, k % 4, none⟩) (by simp) _, ?_, QB.out.drew.setCell (p := ⟨w.heap.size + 1, k % 4, none⟩) (by simp) _⟩
            have := Q1.out.drew_.set_ (k % 4) (.int .i64 (u + v))
            rw [iArr_set] at this
            have e : iArr .i64 4 (fun j => if j = k % 4 then u + v else fsm z k j) = iArr .i64 4 (fsm z (k + 1)) := iArr_congr fun i _ => by simp only [fsm]; rw [HU.out, HVv.out]
            rw [e] at this
            exact this
          case measure => simp [intOf]; omega
      · have i1 : ¬ (k : Int) < n := by omega
        obtain rfl : k = n := by omega
        have c0 : wr.cell? ⟨w.heap.size + 1, 0, none⟩ = some (.int .i64 (V 0)) := by rw [hq1.cell, iArr_at .i64 4 _ _ (by decide), HVf.out]
        have c1 : wr.cell? ⟨w.heap.size + 1, 1, none⟩ = some (.int .i64 (V 1)) := by rw [hq1.cell, iArr_at .i64 4 _ _ (by decide), HVf.out]
        have c2 : wr.cell? ⟨w.heap.size + 1, 2, none⟩ = some (.int .i64 (V 2)) := by rw [hq1.cell, iArr_at .i64 4 _ _ (by decide), HVf.out]
        have c3 : wr.cell? ⟨w.heap.size + 1, 3, none⟩ = some (.int .i64 (V 3)) := by rw [hq1.cell, iArr_at .i64 4 _ _ (by decide), HVf.out]
        have d0 : wr.cell? ⟨w.heap.size, 0, none⟩ = some (.int .i64 0) := Q0.out.cell 0
        have d1 : wr.cell? ⟨w.heap.size, 1, none⟩ = some (.int .i64 0) := Q0.out.cell 1
        have d2 : wr.cell? ⟨w.heap.size, 2, none⟩ = some (.int .i64 0) := Q0.out.cell 2
        have d3 : wr.cell? ⟨w.heap.size, 3, none⟩ = some (.int .i64 0) := Q0.out.cell 3
        have g0 := Q0.out.frozen 0
        have g1 := Q0.out.frozen 1
        have g2 := Q0.out.frozen 2
        have g3 := Q0.out.frozen 3
        clear hq1
        go_wp2_with fail
        refine bodyPost_ret (v := .tuple #[.agg (iArr .i64 4 V), .int .i64 0]) (results_cell_tmp (a := ⟨w.heap.size, 0, none⟩) Try.results13 (by rfl) ((Q0.out.put4 rfl (fun i => .int .i64 (V i))).run_load Try.underlying24 rfl tinfo4) rfl) rfl ?_
        exact ⟨rfl, below4 QB.out (Nat.le_refl _) (fun i => .int .i64 (V i))⟩
  have n0 : (E != 0) = true := by simpa using h0
  clear hE
  go_enter Try.func13, Try.ntmps13
  go_wp2_with fail
  refine (twrong_any (HR.out.keep HB.out) hn).mono ?_
  rw [HE.out]
  rintro e w' ⟨rfl, rfl⟩
  go_wp2_with fail
  refine bodyPost_ret (v := .tuple #[.agg (iArr .i64 4 fun _ => 0), .int .i64 E]) (results_cell_tmp (a := ⟨w.heap.size, 0, none⟩) Try.results13 (by rfl) (H0.out.run_load Try.underlying24 rfl tinfo4) rfl) rfl ?_
  exact ⟨by rw [HZ.out h0], HB.out⟩
end Go.Proofs.Ytnelcbbjnpaodaa
