/-
  Layer 17: numbers, parts; four numbers of two parts each turned around.
-/
import Derived.Test.YtnelcbbjnpaodaaTrn2
import Derived.Test.YtnelcbbjnpaodaaG1
namespace Go.Proofs.Ytnelcbbjnpaodaa
open Go.RowKit
set_option linter.unusedVariables false
set_option linter.unusedSimpArgs false
set_option maxRecDepth 100000
attribute [local go_sem] run_store_complex
theorem tconv_fi {a : Nat} {n : Int} (h : IsI a n) (w : World) : (convert 58 3 (.float .f64 a)).run Try.prog w = .ok (.int .i64 n) w :=
  run_convert_float_int w 58 3 .f64 .i64 a n (by rw [Try.underlying58]; rfl) Try.underlying3 (isI_toInt h)
theorem tconv_if (n : Int) (w : World) : (convert 3 58 (.int .i64 n)).run Try.prog w = .ok (.float .f64 (floatOfInt .f64 n)) w :=
  run_convert_int_float w 3 58 .i64 .f64 n (by rw [Try.underlying3]; rfl) Try.underlying58
theorem tinfo4c : (Try.prog.info? 54).map (·.size) = some 4 := by kernel_rfl
theorem tinfo42 : (Try.prog.info? 29).map (·.size) = some 8 := by kernel_rfl
def tcz (a b : Nat) : Value := .complex .f64 a b
/-- Four whole numbers as complex ones. -/
def nmV (f : Nat → Int) (i : Nat) : Value := tcz (floatOfInt .f64 (f i)) 0
theorem ix_int (f : Nat → Int) (k : Nat) (hk : k < 4) (w : World) : (Instr.index 24 (.agg #[.int .i64 (f 0), .int .i64 (f 1), .int .i64 (f 2), .int .i64 (f 3)]) (.int .i64 (k : Int))).run Try.prog w = .ok (.int .i64 (f k)) w := by
  refine run_index_agg Try.underlying24 (by kernel_rfl) (by omega) (by omega) ?_ w
  exact iArr_at .i64 4 f k hk
theorem ix_cpx (f : Nat → Value) (k : Nat) (hk : k < 4) (w : World) : (Instr.index 54 (.agg #[f 0, f 1, f 2, f 3]) (.int .i64 (k : Int))).run Try.prog w = .ok (f k) w := by
  refine run_index_agg Try.underlying54 (by kernel_rfl) (by omega) (by omega) ?_ w
  exact vArr_at 4 f k hk
set_option maxHeartbeats 4000000 in
theorem tnumbers_any (f : Nat → Int) (w : World) : Calls Try.prog 29 #[.agg (iArr .i64 4 f)] w fun e w' => e = .returned (.agg (vArr 4 (nmV f))) ∧ Below w.heap.size w w' := by
  show Calls Try.prog 29 #[.agg #[.int .i64 (f 0), .int .i64 (f 1), .int .i64 (f 2), .int .i64 (f 3)]] w _
  obtain ⟨R, hR⟩ : ∃ R, vArr 4 (nmV f) = R := ⟨_, rfl⟩
  rw [hR]
  have HR := Lib.hid hR
  clear hR
  go_enter Try.func29, Try.ntmps29
  go_wp2_with fail
  have hq0 : Blk (((w.alloc (.cells #[.int .i64 (f 0), .int .i64 (f 1), .int .i64 (f 2), .int .i64 (f 3)] 24)).alloc (.cells #[tcz 0 0, tcz 0 0, tcz 0 0, tcz 0 0] 54)).alloc (.cells #[tcz 0 0, tcz 0 0, tcz 0 0, tcz 0 0] 54)) (w.heap.size + 1) 54 (vArr 4 fun _ => tcz 0 0) := Blk.alloc (Blk.new_ (by simp)) _
  have hq1 : Blk (((w.alloc (.cells #[.int .i64 (f 0), .int .i64 (f 1), .int .i64 (f 2), .int .i64 (f 3)] 24)).alloc (.cells #[tcz 0 0, tcz 0 0, tcz 0 0, tcz 0 0] 54)).alloc (.cells #[tcz 0 0, tcz 0 0, tcz 0 0, tcz 0 0] 54)) (w.heap.size + 1 + 1) 54 (vArr 4 (upTo_ (nmV f) (fun _ => tcz 0 0) 0)) := Blk.new_ (by simp)
  have hB : Below w.heap.size w (((w.alloc (.cells #[.int .i64 (f 0), .int .i64 (f 1), .int .i64 (f 2), .int .i64 (f 3)] 24)).alloc (.cells #[tcz 0 0, tcz 0 0, tcz 0 0, tcz 0 0] 54)).alloc (.cells #[tcz 0 0, tcz 0 0, tcz 0 0, tcz 0 0] 54)) := (((Below.refl _ w).alloc (Nat.le_refl _) _).alloc (by simp) _).alloc (by simp; omega) _
  unfold tcz at hq0 hq1 hB
  generalize World.alloc _ _ = w3 at *
  go_loopw [4, 5, 7] (fun a b i wr => ∃ k : Nat, k ≤ 4 ∧ i = .int .i64 k ∧ Blk wr (w.heap.size + 1) 54 (vArr 4 fun _ => tcz 0 0) ∧ Blk wr (w.heap.size + 1 + 1) 54 (vArr 4 (upTo_ (nmV f) (fun _ => tcz 0 0) k)) ∧ Below w.heap.size w wr) (fun _ _ i _ => 4 - (intOf i).toNat)
  case atStart => exact ⟨0, by omega, rfl, hq0, hq1, hB⟩
  case round =>
    clear hq0 hq1 hB
    obtain ⟨k, hk, rfl, hq0, hq1, hB⟩ := hrel
    have Q0 := Lib.hid hq0
    have Q1 := Lib.hid hq1
    have QB := Lib.hid hB
    clear hq0 hB
    by_cases hlt : k < 4
    · have i1 : (k : Int) < 4 := by omega
      have hix := ix_int f k hlt
      have hcv := tconv_if (f k)
      obtain ⟨v, hv⟩ : ∃ v, f k = v := ⟨_, rfl⟩
      have HV := Lib.hid hv
      rw [hv] at hix hcv
      obtain ⟨b, hb⟩ : ∃ b, floatOfInt .f64 v = b := ⟨_, rfl⟩
      have HB := Lib.hid hb
      rw [hb] at hcv
      have hcu : wr.cell? ⟨w.heap.size + 1 + 1, k, none⟩ = some (.complex .f64 0 0) := by rw [hq1.cell, vArr_at 4 _ _ hlt]; unfold upTo_; rw [if_neg (by omega)]; rfl
      have hfu : wr.frozen? ⟨w.heap.size + 1 + 1, k, none⟩ = false := hq1.frozen _
      clear hq1 hv hb
      generalize (Value.agg #[.int .i64 (f 0), .int .i64 (f 1), .int .i64 (f 2), .int .i64 (f 3)]) = AV at *
      go_wp2_with fail
      go_roundw
      case rel =>
        refine ⟨k + 1, by omega, by go_num, Q0.out.far (p := ⟨w.heap.size + 1 + 1, k, none⟩) (by simp) _, ?_, QB.out.setCell (p := ⟨w.heap.size + 1 + 1, k, none⟩) (by simp; omega) _⟩
        rw [← upTo_put]
        have := Q1.out.set_ k (nmV f k)
        unfold nmV tcz at this ⊢
        rw [HV.out, HB.out] at this ⊢
        exact this
      case measure => simp [intOf]; omega
    · have i1 : ¬ (k : Int) < 4 := by omega
      obtain rfl : k = 4 := by omega
      rw [upTo_all] at hq1
      have c0 : wr.cell? ⟨w.heap.size + 1 + 1, 0, none⟩ = some (nmV f 0) := by rw [hq1.cell, vArr_at 4 _ _ (by decide)]
      have c1 : wr.cell? ⟨w.heap.size + 1 + 1, 1, none⟩ = some (nmV f 1) := by rw [hq1.cell, vArr_at 4 _ _ (by decide)]
      have c2 : wr.cell? ⟨w.heap.size + 1 + 1, 2, none⟩ = some (nmV f 2) := by rw [hq1.cell, vArr_at 4 _ _ (by decide)]
      have c3 : wr.cell? ⟨w.heap.size + 1 + 1, 3, none⟩ = some (nmV f 3) := by rw [hq1.cell, vArr_at 4 _ _ (by decide)]
      unfold nmV tcz at c0 c1 c2 c3
      have d0 : wr.cell? ⟨w.heap.size + 1, 0, none⟩ = some (.complex .f64 0 0) := Q0.out.cell 0
      have d1 : wr.cell? ⟨w.heap.size + 1, 1, none⟩ = some (.complex .f64 0 0) := Q0.out.cell 1
      have d2 : wr.cell? ⟨w.heap.size + 1, 2, none⟩ = some (.complex .f64 0 0) := Q0.out.cell 2
      have d3 : wr.cell? ⟨w.heap.size + 1, 3, none⟩ = some (.complex .f64 0 0) := Q0.out.cell 3
      have g0 := Q0.out.frozen 0
      have g1 := Q0.out.frozen 1
      have g2 := Q0.out.frozen 2
      have g3 := Q0.out.frozen 3
      clear hq1
      go_wp2_with fail
      refine bodyPost_ret (v := .agg (vArr 4 (nmV f))) (results_cell (a := ⟨w.heap.size + 1, 0, none⟩) Try.results29 (by rfl) ((Q0.out.put4 rfl (nmV f)).run_load Try.underlying54 rfl tinfo4c)) rfl ?_
      exact ⟨by rw [HR.out], below4 QB.out (by omega) (nmV f)⟩
/-- Eight parts, as they lie. -/
def ptV (p : Nat → Int × Int) (j : Nat) : Value := .int .i64 (prt p j)
set_option maxHeartbeats 4000000 in
theorem tparts_any (x y : Nat → Nat) (p : Nat → Int × Int) (hI : ∀ i, i < 4 → IsI (x i) (p i).1 ∧ IsI (y i) (p i).2) (w : World) :
    Calls Try.prog 27 #[.agg (vArr 4 fun i => tcz (x i) (y i))] w fun e w' => e = .returned (.agg (vArr 8 (ptV p))) ∧ Below w.heap.size w w' := by
  show Calls Try.prog 27 #[.agg #[.complex .f64 (x 0) (y 0), .complex .f64 (x 1) (y 1), .complex .f64 (x 2) (y 2), .complex .f64 (x 3) (y 3)]] w _
  obtain ⟨R, hR⟩ : ∃ R, vArr 8 (ptV p) = R := ⟨_, rfl⟩
  rw [hR]
  have HR := Lib.hid hR
  have HI := Lib.hid hI
  clear hR hI
  have hxx : ∀ k : Nat, k < 4 → ∀ w, (Instr.index 54 (.agg #[.complex .f64 (x 0) (y 0), .complex .f64 (x 1) (y 1), .complex .f64 (x 2) (y 2), .complex .f64 (x 3) (y 3)]) (.int .i64 (k : Int))).run Try.prog w = .ok (tcz (x k) (y k)) w := fun k hk w => ix_cpx (fun i => tcz (x i) (y i)) k hk w
  have HX := Lib.hid hxx
  clear hxx
  go_enter Try.func27, Try.ntmps27
  go_wp2_with fail
  have hq0 : Blk (((w.alloc (.cells #[.complex .f64 (x 0) (y 0), .complex .f64 (x 1) (y 1), .complex .f64 (x 2) (y 2), .complex .f64 (x 3) (y 3)] 54)).alloc (.cells #[.int .i64 0, .int .i64 0, .int .i64 0, .int .i64 0, .int .i64 0, .int .i64 0, .int .i64 0, .int .i64 0] 29)).alloc (.cells #[.int .i64 0, .int .i64 0, .int .i64 0, .int .i64 0, .int .i64 0, .int .i64 0, .int .i64 0, .int .i64 0] 29)) (w.heap.size + 1) 29 (vArr 8 fun _ => .int .i64 0) := Blk.alloc (Blk.new_ (by simp)) _
  have hq1 : Blk (((w.alloc (.cells #[.complex .f64 (x 0) (y 0), .complex .f64 (x 1) (y 1), .complex .f64 (x 2) (y 2), .complex .f64 (x 3) (y 3)] 54)).alloc (.cells #[.int .i64 0, .int .i64 0, .int .i64 0, .int .i64 0, .int .i64 0, .int .i64 0, .int .i64 0, .int .i64 0] 29)).alloc (.cells #[.int .i64 0, .int .i64 0, .int .i64 0, .int .i64 0, .int .i64 0, .int .i64 0, .int .i64 0, .int .i64 0] 29)) (w.heap.size + 1 + 1) 29 (vArr 8 (upTo_ (ptV p) (fun _ => .int .i64 0) (0 * 2))) := Blk.new_ (by simp)
  have hB : Below w.heap.size w (((w.alloc (.cells #[.complex .f64 (x 0) (y 0), .complex .f64 (x 1) (y 1), .complex .f64 (x 2) (y 2), .complex .f64 (x 3) (y 3)] 54)).alloc (.cells #[.int .i64 0, .int .i64 0, .int .i64 0, .int .i64 0, .int .i64 0, .int .i64 0, .int .i64 0, .int .i64 0] 29)).alloc (.cells #[.int .i64 0, .int .i64 0, .int .i64 0, .int .i64 0, .int .i64 0, .int .i64 0, .int .i64 0, .int .i64 0] 29)) := (((Below.refl _ w).alloc (Nat.le_refl _) _).alloc (by simp) _).alloc (by simp; omega) _
  generalize World.alloc _ _ = w3 at *
  go_loopw [4, 5, 7] (fun a b i wr => ∃ k : Nat, k ≤ 4 ∧ i = .int .i64 k ∧ Blk wr (w.heap.size + 1) 29 (vArr 8 fun _ => .int .i64 0) ∧ Blk wr (w.heap.size + 1 + 1) 29 (vArr 8 (upTo_ (ptV p) (fun _ => .int .i64 0) (k * 2))) ∧ Below w.heap.size w wr) (fun _ _ i _ => 4 - (intOf i).toNat)
  case atStart => exact ⟨0, by omega, rfl, hq0, hq1, hB⟩
  case round =>
    clear hq0 hq1 hB
    obtain ⟨k, hk, rfl, hq0, hq1, hB⟩ := hrel
    have Q0 := Lib.hid hq0
    have Q1 := Lib.hid hq1
    have QB := Lib.hid hB
    clear hq0 hB
    by_cases hlt : k < 4
    · have i1 : (k : Int) < 4 := by omega
      have hix := HX.out k hlt
      obtain ⟨i1', i2'⟩ := HI.out k hlt
      have hc1 := tconv_fi i1'
      have hc2 := tconv_fi i2'
      obtain ⟨r, hr⟩ : ∃ r, (p k).1 = r := ⟨_, rfl⟩
      obtain ⟨s, hs⟩ : ∃ s, (p k).2 = s := ⟨_, rfl⟩
      have hp0 : ptV p (k * 2) = .int .i64 r := by unfold ptV prt; rw [if_pos (by omega), show k * 2 / 2 = k by omega, hr]
      have hp1 : ptV p (k * 2 + 1) = .int .i64 s := by unfold ptV prt; rw [if_neg (by omega), show (k * 2 + 1) / 2 = k by omega, hs]
      have HP0 := Lib.hid hp0
      have HP1 := Lib.hid hp1
      rw [hr] at hc1
      rw [hs] at hc2
      unfold tcz at hix
      have hcu : wr.cell? ⟨w.heap.size + 1 + 1, k * 2, none⟩ = some (.int .i64 0) := by rw [hq1.cell, vArr_at 8 _ _ (by omega)]; unfold upTo_; rw [if_neg (by omega)]
      have hcv : wr.cell? ⟨w.heap.size + 1 + 1, k * 2 + 1, none⟩ = some (.int .i64 0) := by rw [hq1.cell, vArr_at 8 _ _ (by omega)]; unfold upTo_; rw [if_neg (by omega)]
      have hfu : wr.frozen? ⟨w.heap.size + 1 + 1, k * 2, none⟩ = false := hq1.frozen _
      have hfv : wr.frozen? ⟨w.heap.size + 1 + 1, k * 2 + 1, none⟩ = false := hq1.frozen _
      clear hq1 hp0 hp1 hr hs i1' i2'
      generalize (Value.agg #[.complex .f64 (x 0) (y 0), .complex .f64 (x 1) (y 1), .complex .f64 (x 2) (y 2), .complex .f64 (x 3) (y 3)]) = AV at *
      go_wp2_with fail
      go_roundw
      case rel =>
        refine ⟨k + 1, by omega, by go_num, (Q0.out.far (p := ⟨w.heap.size + 1 + 1, k * 2, none⟩) (by simp) _).far (p := ⟨w.heap.size + 1 + 1, k * 2 + 1, none⟩) (by simp) _, ?_, (QB.out.setCell (p := ⟨w.heap.size + 1 + 1, k * 2, none⟩) (by simp; omega) _).setCell (p := ⟨w.heap.size + 1 + 1, k * 2 + 1, none⟩) (by simp; omega) _⟩
        rw [show (k + 1) * 2 = k * 2 + 1 + 1 by omega, ← upTo_put, ← upTo_put, HP0.out, HP1.out]
        exact (Q1.out.set_ (k * 2) (.int .i64 r)).set_ (k * 2 + 1) (.int .i64 s)
      case measure => simp [intOf]; omega
    · have i1 : ¬ (k : Int) < 4 := by omega
      obtain rfl : k = 4 := by omega
      rw [show 4 * 2 = 8 from rfl, upTo_all] at hq1
      have c0 : wr.cell? ⟨w.heap.size + 1 + 1, 0, none⟩ = some (.int .i64 (prt p 0)) := by rw [hq1.cell, vArr_at 8 _ _ (by decide)]; rfl
      have c1 : wr.cell? ⟨w.heap.size + 1 + 1, 1, none⟩ = some (.int .i64 (prt p 1)) := by rw [hq1.cell, vArr_at 8 _ _ (by decide)]; rfl
      have c2 : wr.cell? ⟨w.heap.size + 1 + 1, 2, none⟩ = some (.int .i64 (prt p 2)) := by rw [hq1.cell, vArr_at 8 _ _ (by decide)]; rfl
      have c3 : wr.cell? ⟨w.heap.size + 1 + 1, 3, none⟩ = some (.int .i64 (prt p 3)) := by rw [hq1.cell, vArr_at 8 _ _ (by decide)]; rfl
      have c4 : wr.cell? ⟨w.heap.size + 1 + 1, 4, none⟩ = some (.int .i64 (prt p 4)) := by rw [hq1.cell, vArr_at 8 _ _ (by decide)]; rfl
      have c5 : wr.cell? ⟨w.heap.size + 1 + 1, 5, none⟩ = some (.int .i64 (prt p 5)) := by rw [hq1.cell, vArr_at 8 _ _ (by decide)]; rfl
      have c6 : wr.cell? ⟨w.heap.size + 1 + 1, 6, none⟩ = some (.int .i64 (prt p 6)) := by rw [hq1.cell, vArr_at 8 _ _ (by decide)]; rfl
      have c7 : wr.cell? ⟨w.heap.size + 1 + 1, 7, none⟩ = some (.int .i64 (prt p 7)) := by rw [hq1.cell, vArr_at 8 _ _ (by decide)]; rfl
      have d0 : wr.cell? ⟨w.heap.size + 1, 0, none⟩ = some (.int .i64 0) := Q0.out.cell 0
      have g0 := Q0.out.frozen 0
      have d1 : wr.cell? ⟨w.heap.size + 1, 1, none⟩ = some (.int .i64 0) := Q0.out.cell 1
      have g1 := Q0.out.frozen 1
      have d2 : wr.cell? ⟨w.heap.size + 1, 2, none⟩ = some (.int .i64 0) := Q0.out.cell 2
      have g2 := Q0.out.frozen 2
      have d3 : wr.cell? ⟨w.heap.size + 1, 3, none⟩ = some (.int .i64 0) := Q0.out.cell 3
      have g3 := Q0.out.frozen 3
      have d4 : wr.cell? ⟨w.heap.size + 1, 4, none⟩ = some (.int .i64 0) := Q0.out.cell 4
      have g4 := Q0.out.frozen 4
      have d5 : wr.cell? ⟨w.heap.size + 1, 5, none⟩ = some (.int .i64 0) := Q0.out.cell 5
      have g5 := Q0.out.frozen 5
      have d6 : wr.cell? ⟨w.heap.size + 1, 6, none⟩ = some (.int .i64 0) := Q0.out.cell 6
      have g6 := Q0.out.frozen 6
      have d7 : wr.cell? ⟨w.heap.size + 1, 7, none⟩ = some (.int .i64 0) := Q0.out.cell 7
      have g7 := Q0.out.frozen 7
      clear hq1
      go_wp2_with fail
      refine bodyPost_ret (v := .agg (vArr 8 (ptV p))) (results_cell (a := ⟨w.heap.size + 1, 0, none⟩) Try.results27 (by rfl) ((Q0.out.put8 rfl (ptV p)).run_load Try.underlying29 rfl tinfo42)) rfl ?_
      exact ⟨by rw [HR.out], below8 QB.out (by omega) (ptV p)⟩
end Go.Proofs.Ytnelcbbjnpaodaa
