/-
  Layer 17: Of, Strength.
-/
import Derived.Test.YtnelcbbjnpaodaaTrn4
namespace Go.Proofs.Ytnelcbbjnpaodaa
open Go.RowKit
set_option linter.unusedVariables false
set_option linter.unusedSimpArgs false
set_option maxRecDepth 100000
attribute [local go_sem] run_store_complex
theorem iArr_four (f : Nat → Int) : iArr .i64 4 f = #[.int .i64 (f 0), .int .i64 (f 1), .int .i64 (f 2), .int .i64 (f 3)] := rfl
theorem isI_m1 : IsI 13830554455654793216 (-1) := ⟨⟨true, 4503599627370496, 52, by decide +kernel, by decide +kernel⟩, by decide⟩
def bnV (f : Nat → Int) (j : Nat) : Value := .int .i64 (bns f j)
theorem bnV_zero (f : Nat → Int) (h : ∀ i, f i = 0) : vArr 8 (bnV f) = vArr 8 fun _ => .int .i64 0 := vArr_congr fun j _ => by
  unfold bnV
  have : bns f j = 0 := by unfold bns; rw [h 0, h 1, h 2, h 3]; split <;> rfl
  rw [this]
set_option maxHeartbeats 8000000 in
theorem tof_any {w : World} {A : Option Addr} {n c : Nat} {z : Nat → Int} (hR : IRow w .i64 A n z) (hn : n ≤ 9223372036854775000) :
    Calls Try.prog 11 #[.slice A n c] w fun e w' => e = .returned (.tuple #[.agg (vArr 8 (bnV (fldV z n))), .int .i64 (rowE z n)]) ∧ Below w.heap.size w w' := by
  have HR := Lib.hid hR
  clear hR
  obtain ⟨E, hE⟩ : ∃ E, rowE z n = E := ⟨_, rfl⟩
  obtain ⟨V, hV⟩ : ∃ V, fldV z n = V := ⟨_, rfl⟩
  have hVb : ∀ i, (V i).natAbs ≤ 1073741824 := fun i => by rw [← hV]; exact fldV_bd z n i
  have hZ : E ≠ 0 → ∀ i, V i = 0 := fun he i => by rw [← hV]; unfold fldV; rw [hE, if_neg he]
  rw [hV, hE]
  have HE := Lib.hid hE
  have HV := Lib.hid hV
  have HVb := Lib.hid hVb
  have HZ := Lib.hid hZ
  clear hE hV hVb hZ
  have hq0 : Blk (w.alloc (.cells #[.int .i64 0, .int .i64 0, .int .i64 0, .int .i64 0, .int .i64 0, .int .i64 0, .int .i64 0, .int .i64 0] 29)) w.heap.size 29 (vArr 8 fun _ => .int .i64 0) := Blk.new w _ _
  have hB : Below w.heap.size w (w.alloc (.cells #[.int .i64 0, .int .i64 0, .int .i64 0, .int .i64 0, .int .i64 0, .int .i64 0, .int .i64 0, .int .i64 0] 29)) := (Below.refl _ w).alloc (Nat.le_refl _) _
  have hsz : (w.alloc (.cells #[.int .i64 0, .int .i64 0, .int .i64 0, .int .i64 0, .int .i64 0, .int .i64 0, .int .i64 0, .int .i64 0] 29)).heap.size = w.heap.size + 1 := by simp
  have H0 := Lib.hid hq0
  have HB := Lib.hid hB
  have HSz := Lib.hid hsz
  clear hq0 hB hsz
  by_cases h0 : E = 0
  · subst h0
    go_enter Try.func11, Try.ntmps11
    go_wp2_with fail
    generalize World.alloc _ _ = w1 at *
    refine (tfold_any (HR.out.keep HB.out) hn).mono ?_
    rw [HE.out, HV.out, iArr_four]
    rintro e w2 ⟨rfl, b2⟩
    have Q0 := Lib.hid (H0.out.below b2 (by rw [HSz.out]; omega))
    have QB := Lib.hid (HB.out.trans (b2.mono (by rw [HSz.out]; omega)))
    have hl2 : w.heap.size + 1 ≤ w2.heap.size := by have := b2.size; rw [HSz.out] at this; exact this
    clear b2 H0 HB HSz
    have K0 : Blk (w2.alloc (.cells #[.int .i64 (V 0), .int .i64 (V 1), .int .i64 (V 2), .int .i64 (V 3)] 24)) w.heap.size 29 (vArr 8 fun _ => .int .i64 0) := Q0.out.alloc _
    have KB : Below w.heap.size w (w2.alloc (.cells #[.int .i64 (V 0), .int .i64 (V 1), .int .i64 (V 2), .int .i64 (V 3)] 24)) := QB.out.alloc (by omega) _
    have KS : (w2.alloc (.cells #[.int .i64 (V 0), .int .i64 (V 1), .int .i64 (V 2), .int .i64 (V 3)] 24)).heap.size = w2.heap.size + 1 := by simp
    have Q0 := Lib.hid K0
    have QB := Lib.hid KB
    have QS := Lib.hid KS
    clear K0 KB KS
    go_wp2_with fail
    generalize World.alloc _ _ = w3 at *
    refine (tnumbers_any V w3).mono ?_
    rintro e w4 ⟨rfl, b4⟩
    have Q0 := Lib.hid (Q0.out.below b4 (by rw [QS.out]; omega))
    have QB := Lib.hid (QB.out.trans (b4.mono (by rw [QS.out]; omega)))
    have hl4 : w.heap.size + 1 ≤ w4.heap.size := by have := b4.size; rw [QS.out] at this; omega
    clear b4 QS
    go_wp2_with fail
    refine (taround_any (fun i => floatOfInt .f64 (V i)) (fun _ => 0) (fun i => (V i, 0)) (fun i _ => ⟨isI_of _ (by have := HVb.out i; omega), isI_zero⟩) (fun i _ => ⟨by have := HVb.out i; dsimp only; omega, by simp⟩) (-1) (.inr rfl) 0 13830554455654793216 isI_zero isI_m1 w4).mono ?_
    rintro e w5 ⟨⟨X, Y, rfl, hXY⟩, b5⟩
    have HXY := Lib.hid hXY
    have Q0 := Lib.hid (Q0.out.below b5 (by omega))
    have QB := Lib.hid (QB.out.trans (b5.mono (by omega)))
    have hl5 : w.heap.size + 1 ≤ w5.heap.size := by have := b5.size; omega
    clear b5 hXY
    go_wp2_with fail
    refine (tparts_any X Y _ HXY.out w5).mono ?_
    have hbn : vArr 8 (ptV fun i => smm (-1) (fun i => (V i, 0)) i 4) = vArr 8 (bnV V) := vArr_congr fun j hj => by unfold ptV bnV; rw [bns_of V hj]
    rw [hbn]
    clear hbn HXY
    obtain ⟨R, hR⟩ : ∃ R, vArr 8 (bnV V) = R := ⟨_, rfl⟩
    obtain ⟨r0, hr0⟩ : ∃ r, bns V 0 = r := ⟨_, rfl⟩
    obtain ⟨r1, hr1⟩ : ∃ r, bns V 1 = r := ⟨_, rfl⟩
    obtain ⟨r2, hr2⟩ : ∃ r, bns V 2 = r := ⟨_, rfl⟩
    obtain ⟨r3, hr3⟩ : ∃ r, bns V 3 = r := ⟨_, rfl⟩
    obtain ⟨r4, hr4⟩ : ∃ r, bns V 4 = r := ⟨_, rfl⟩
    obtain ⟨r5, hr5⟩ : ∃ r, bns V 5 = r := ⟨_, rfl⟩
    obtain ⟨r6, hr6⟩ : ∃ r, bns V 6 = r := ⟨_, rfl⟩
    obtain ⟨r7, hr7⟩ : ∃ r, bns V 7 = r := ⟨_, rfl⟩
    have hR8 : vArr 8 (bnV V) = #[.int .i64 r0, .int .i64 r1, .int .i64 r2, .int .i64 r3, .int .i64 r4, .int .i64 r5, .int .i64 r6, .int .i64 r7] := by rw [← hr0, ← hr1, ← hr2, ← hr3, ← hr4, ← hr5, ← hr6, ← hr7]; rfl
    have HR8 := Lib.hid hR8
    rw [hR8]
    clear hR8 hR hr0 hr1 hr2 hr3 hr4 hr5 hr6 hr7
    rintro e w6 ⟨rfl, b6⟩
    have K0 := Q0.out.below b6 (by omega)
    have Q0 := Lib.hid K0
    have QB := Lib.hid (QB.out.trans (b6.mono (by omega)))
    clear b6
    have d0 : w6.cell? ⟨w.heap.size, 0, none⟩ = some (.int .i64 0) := K0.cell 0
    have g0 := K0.frozen 0
    have d1 : w6.cell? ⟨w.heap.size, 1, none⟩ = some (.int .i64 0) := K0.cell 1
    have g1 := K0.frozen 1
    have d2 : w6.cell? ⟨w.heap.size, 2, none⟩ = some (.int .i64 0) := K0.cell 2
    have g2 := K0.frozen 2
    have d3 : w6.cell? ⟨w.heap.size, 3, none⟩ = some (.int .i64 0) := K0.cell 3
    have g3 := K0.frozen 3
    have d4 : w6.cell? ⟨w.heap.size, 4, none⟩ = some (.int .i64 0) := K0.cell 4
    have g4 := K0.frozen 4
    have d5 : w6.cell? ⟨w.heap.size, 5, none⟩ = some (.int .i64 0) := K0.cell 5
    have g5 := K0.frozen 5
    have d6 : w6.cell? ⟨w.heap.size, 6, none⟩ = some (.int .i64 0) := K0.cell 6
    have g6 := K0.frozen 6
    have d7 : w6.cell? ⟨w.heap.size, 7, none⟩ = some (.int .i64 0) := K0.cell 7
    have g7 := K0.frozen 7
    clear K0
    go_wp2_with fail
    refine bodyPost_ret (v := .tuple #[.agg (vArr 8 (bnV V)), .int .i64 0]) (results_cell_tmp (a := ⟨w.heap.size, 0, none⟩) Try.results11 (by rfl) ((show Blk _ w.heap.size 29 (vArr 8 (bnV V)) from HR8.out ▸ Q0.out.put8 rfl (fun j => #[r0, r1, r2, r3, r4, r5, r6, r7][j]?.elim undef (.int .i64))).run_load Try.underlying29 rfl tinfo42) rfl) rfl ?_
    exact ⟨by rw [HR8.out], below8 QB.out (Nat.le_refl _) (fun j => #[r0, r1, r2, r3, r4, r5, r6, r7][j]?.elim undef (.int .i64))⟩
  have n0 : (E != 0) = true := by simpa using h0
  go_enter Try.func11, Try.ntmps11
  go_wp2_with fail
  generalize World.alloc _ _ = w1 at *
  refine (tfold_any (HR.out.keep HB.out) hn).mono ?_
  rw [HE.out, HV.out, iArr_four]
  rintro e w2 ⟨rfl, b2⟩
  have Q0 := Lib.hid (H0.out.below b2 (by rw [HSz.out]; omega))
  have QB := Lib.hid (HB.out.trans (b2.mono (by rw [HSz.out]; omega)))
  have hl2 : w.heap.size + 1 ≤ w2.heap.size := by have := b2.size; rw [HSz.out] at this; exact this
  clear b2 H0 HB HSz
  have K0 : Blk (w2.alloc (.cells #[.int .i64 (V 0), .int .i64 (V 1), .int .i64 (V 2), .int .i64 (V 3)] 24)) w.heap.size 29 (vArr 8 fun _ => .int .i64 0) := Q0.out.alloc _
  have KB : Below w.heap.size w (w2.alloc (.cells #[.int .i64 (V 0), .int .i64 (V 1), .int .i64 (V 2), .int .i64 (V 3)] 24)) := QB.out.alloc (by omega) _
  have d0 : (w2.alloc (.cells #[.int .i64 (V 0), .int .i64 (V 1), .int .i64 (V 2), .int .i64 (V 3)] 24)).cell? ⟨w.heap.size, 0, none⟩ = some (.int .i64 0) := K0.cell 0
  have g0 : (w2.alloc (.cells #[.int .i64 (V 0), .int .i64 (V 1), .int .i64 (V 2), .int .i64 (V 3)] 24)).frozen? ⟨w.heap.size, 0, none⟩ = false := K0.frozen 0
  have d1 : (w2.alloc (.cells #[.int .i64 (V 0), .int .i64 (V 1), .int .i64 (V 2), .int .i64 (V 3)] 24)).cell? ⟨w.heap.size, 1, none⟩ = some (.int .i64 0) := K0.cell 1
  have g1 : (w2.alloc (.cells #[.int .i64 (V 0), .int .i64 (V 1), .int .i64 (V 2), .int .i64 (V 3)] 24)).frozen? ⟨w.heap.size, 1, none⟩ = false := K0.frozen 1
  have d2 : (w2.alloc (.cells #[.int .i64 (V 0), .int .i64 (V 1), .int .i64 (V 2), .int .i64 (V 3)] 24)).cell? ⟨w.heap.size, 2, none⟩ = some (.int .i64 0) := K0.cell 2
  have g2 : (w2.alloc (.cells #[.int .i64 (V 0), .int .i64 (V 1), .int .i64 (V 2), .int .i64 (V 3)] 24)).frozen? ⟨w.heap.size, 2, none⟩ = false := K0.frozen 2
  have d3 : (w2.alloc (.cells #[.int .i64 (V 0), .int .i64 (V 1), .int .i64 (V 2), .int .i64 (V 3)] 24)).cell? ⟨w.heap.size, 3, none⟩ = some (.int .i64 0) := K0.cell 3
  have g3 : (w2.alloc (.cells #[.int .i64 (V 0), .int .i64 (V 1), .int .i64 (V 2), .int .i64 (V 3)] 24)).frozen? ⟨w.heap.size, 3, none⟩ = false := K0.frozen 3
  have d4 : (w2.alloc (.cells #[.int .i64 (V 0), .int .i64 (V 1), .int .i64 (V 2), .int .i64 (V 3)] 24)).cell? ⟨w.heap.size, 4, none⟩ = some (.int .i64 0) := K0.cell 4
  have g4 : (w2.alloc (.cells #[.int .i64 (V 0), .int .i64 (V 1), .int .i64 (V 2), .int .i64 (V 3)] 24)).frozen? ⟨w.heap.size, 4, none⟩ = false := K0.frozen 4
  have d5 : (w2.alloc (.cells #[.int .i64 (V 0), .int .i64 (V 1), .int .i64 (V 2), .int .i64 (V 3)] 24)).cell? ⟨w.heap.size, 5, none⟩ = some (.int .i64 0) := K0.cell 5
  have g5 : (w2.alloc (.cells #[.int .i64 (V 0), .int .i64 (V 1), .int .i64 (V 2), .int .i64 (V 3)] 24)).frozen? ⟨w.heap.size, 5, none⟩ = false := K0.frozen 5
  have d6 : (w2.alloc (.cells #[.int .i64 (V 0), .int .i64 (V 1), .int .i64 (V 2), .int .i64 (V 3)] 24)).cell? ⟨w.heap.size, 6, none⟩ = some (.int .i64 0) := K0.cell 6
  have g6 : (w2.alloc (.cells #[.int .i64 (V 0), .int .i64 (V 1), .int .i64 (V 2), .int .i64 (V 3)] 24)).frozen? ⟨w.heap.size, 6, none⟩ = false := K0.frozen 6
  have d7 : (w2.alloc (.cells #[.int .i64 (V 0), .int .i64 (V 1), .int .i64 (V 2), .int .i64 (V 3)] 24)).cell? ⟨w.heap.size, 7, none⟩ = some (.int .i64 0) := K0.cell 7
  have g7 : (w2.alloc (.cells #[.int .i64 (V 0), .int .i64 (V 1), .int .i64 (V 2), .int .i64 (V 3)] 24)).frozen? ⟨w.heap.size, 7, none⟩ = false := K0.frozen 7
  have Q0 := Lib.hid K0
  have QB := Lib.hid KB
  have QZ := Lib.hid (bnV_zero V (HZ.out h0))
  clear K0 KB
  go_wp2_with fail
  refine bodyPost_ret (v := .tuple #[.agg (vArr 8 fun _ => .int .i64 0), .int .i64 E]) (results_cell_tmp (a := ⟨w.heap.size, 0, none⟩) Try.results11 (by rfl) ((Q0.out.put8 rfl (fun _ => .int .i64 0)).run_load Try.underlying29 rfl tinfo42) rfl) rfl ?_
  exact ⟨by rw [QZ.out], below8 QB.out (Nat.le_refl _) (fun _ => .int .i64 0)⟩
end Go.Proofs.Ytnelcbbjnpaodaa
